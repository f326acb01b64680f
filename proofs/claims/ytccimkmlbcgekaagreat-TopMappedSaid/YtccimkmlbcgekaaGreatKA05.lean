/-
  Texts of these proofs, one behind the other: G1, G25, G14.
-/
import Derived.WalkKit
import Derived.Handy
import Derived.WalkSpells
import Derived.WalkLawsBesides
import Derived.Test.YtccimkmlbcgekaaGreatKA04
import Derived.Deep.RegionHeld3
import Derived.Laws.Rows
namespace Go.Proofs.YtccimkmlbcgekaaGreat
open Go.RowKit

/-- A type whose values are one cell, and no aggregate. -/
def flat (P : Program) (e : TypeId) : Bool :=
  (match P.underlying e with | some (.struct _) => false | some (.array _ _) => false | some _ => true | none => false) && (P.info? e).any (fun i => i.size == 1)

theorem run_index_agg {P : Program} {t e : TypeId} {n : Nat} (ht : P.underlying t = some (.array n e)) (he : flat P e = true) {cs : Array Value} {k : IntKind} {i : Int} {v : Value} (h0 : 0 ≤ i) (h1 : i < n) (hv : cs[i.toNat]? = some v) (w : World) :
    (Instr.index t (.agg cs) (.int k i)).run P w = .ok v w := by
  unfold flat at he
  simp only [Bool.and_eq_true, Option.any_eq_true] at he
  obtain ⟨he, inf, hi, hs⟩ := he
  have hs : inf.size = 1 := by simpa using hs
  cases hu : P.underlying e with
  | none => simp [hu] at he
  | some d =>
    have hz : (typeInfo e).run P w = .ok inf w := by simp [typeInfo, hi]
    cases d <;> simp [hu] at he <;> simp [Instr.index, run_underlying ht, asIntOf, h0, h1, part, isAgg, run_underlying hu, sizeOf, hz, hs, hv]
end Go.Proofs.YtccimkmlbcgekaaGreat
namespace Go.Proofs.YtccimkmlbcgekaaGreat
open Go.RowKit
set_option linter.unusedVariables false
set_option linter.unusedSimpArgs false
theorem run_equalIn_arrayM {P : Program} (w : World) (d : Nat) (t e : TypeId) (len m : Nat) (xs ys : Array Value) (p : Nat → Bool) (ht : P.underlying t = some (.array len e)) (hs : (sizeOf e).run P w = .ok m w)
    (h : ∀ i, i < len → ∃ a b, (part e xs (i * m)).run P w = .ok a w ∧ (part e ys (i * m)).run P w = .ok b w ∧ (Op.equalIn d e a b).run P w = .ok (p i) w) :
    (Op.equalIn (d + 1) t (.agg xs) (.agg ys)).run P w = .ok ((List.range len).all p) w := by
  simp only [Op.equalIn, Sem.run_bind, run_underlying ht, Result.andThen_ok, hs]
  rw [Std.Legacy.Range.forIn_eq_forIn_range']
  have hL : ∀ i ∈ List.range' 0 len, i < len := fun i hi => by simpa using hi
  rw [List.range_eq_range']
  simp only [Std.Legacy.Range.size, Nat.sub_zero, Nat.add_sub_cancel, Nat.div_one]
  generalize List.range' 0 len = L at *
  induction L with
  | nil => simp
  | cons i L ih =>
    obtain ⟨a, b, h1, h2, h3⟩ := h i (hL i (by simp))
    simp only [List.forIn_cons, Sem.run_bind, h1, h2, h3, Result.andThen_ok, Sem.run_ite]
    cases hp : p i with
    | false => simp [hp]
    | true =>
      simp only [hp, List.all_cons, Bool.true_and]
      simpa using ih (fun j hj => hL j (by simp [hj]))
theorem run_part_agg {P : Program} {e : TypeId} {n m : Nat} {e' : TypeId} (he : P.underlying e = some (.array n e')) (hm : (P.info? e).map (·.size) = some m) (cs : Array Value) (o : Nat) (w : World) : (part e cs o).run P w = .ok (.agg (cs.extract o (o + m))) w := by
  obtain ⟨inf, hi, hs⟩ : ∃ inf, P.info? e = some inf ∧ inf.size = m := by
    cases hx : P.info? e with
    | none => simp [hx] at hm
    | some i => exact ⟨i, rfl, by simpa [hx] using hm⟩
  have hz : (typeInfo e).run P w = .ok inf w := by simp [typeInfo, hi]
  simp [part, isAgg, run_underlying he, sizeOf, hz, hs]
theorem run_part_flat {P : Program} {e : TypeId} (he : flat P e = true) {cs : Array Value} {o : Nat} {v : Value} (hv : cs[o]? = some v) (w : World) : (part e cs o).run P w = .ok v w := by
  unfold flat at he
  simp only [Bool.and_eq_true, Option.any_eq_true] at he
  obtain ⟨he, _⟩ := he
  cases hu : P.underlying e with
  | none => simp [hu] at he
  | some d => cases d <;> simp [hu] at he <;> simp [part, isAgg, run_underlying hu, hv]
theorem run_sizeOf {P : Program} {e : TypeId} {m : Nat} (hm : (P.info? e).map (·.size) = some m) (w : World) : (sizeOf e).run P w = .ok m w := by
  obtain ⟨inf, hi, hs⟩ : ∃ inf, P.info? e = some inf ∧ inf.size = m := by
    cases hx : P.info? e with
    | none => simp [hx] at hm
    | some i => exact ⟨i, rfl, by simpa [hx] using hm⟩
  simp [sizeOf, typeInfo, hi, hs]
theorem vArr_extract (n : Nat) (f : Nat → Value) (o m : Nat) (h : o + m ≤ n) : (vArr n f).extract o (o + m) = vArr m fun i => f (o + i) := by
  apply Array.ext_getElem?
  intro i
  by_cases hi : i < m
  · rw [vArr_at m _ i hi, Array.getElem?_extract, if_pos (by rw [vArr_size]; omega), vArr_at n f (o + i) (by omega)]
  · rw [Array.getElem?_eq_none (by rw [Array.size_extract, vArr_size]; omega), Array.getElem?_eq_none (by rw [vArr_size]; omega)]
/-- An element, an array itself, of an array by value. -/
theorem run_index_aggM {P : Program} {t e e' : TypeId} {n m m' : Nat} (ht : P.underlying t = some (.array n e)) (he : P.underlying e = some (.array m' e')) (hm : (P.info? e).map (·.size) = some m) (f : Nat → Value) {k : IntKind} {i : Nat} (h1 : i < n) (w : World) :
    (Instr.index t (.agg (vArr (n * m) f)) (.int k (i : Int))).run P w = .ok (.agg (vArr m fun j => f (i * m + j))) w := by
  have hle : i * m + m ≤ n * m := by rw [← Nat.succ_mul]; exact Nat.mul_le_mul_right _ h1
  have hp := run_part_agg he hm (vArr (n * m) f) (i * m) w
  rw [vArr_extract _ _ _ _ hle] at hp
  have h2 : (i : Int) < n := by omega
  have h3 : (0 : Int) ≤ (i : Int) := by omega
  have h4 : ¬ n ≤ i := by omega
  simp [Instr.index, run_underlying ht, asIntOf, h1, h4, run_sizeOf hm, hp]
/-- Two arrays of integers compared. -/
theorem run_eql_ints {P : Program} {t e : TypeId} {n : Nat} {k : IntKind} (ht : P.underlying t = some (.array n e)) (he : P.underlying e = some (.int k)) (hf : flat P e = true) (hs : (P.info? e).map (·.size) = some 1) (d : Nat) (f g : Nat → Int) (w : World) :
    (Op.equalIn (d + 2) t (.agg (vArr n fun i => .int k (f i))) (.agg (vArr n fun i => .int k (g i)))).run P w = .ok ((List.range n).all fun i => f i == g i) w :=
  run_equalIn_arrayM w (d + 1) t e n 1 _ _ _ ht (run_sizeOf hs w) fun i hi => ⟨.int k (f i), .int k (g i), run_part_flat hf (by rw [Nat.mul_one]; exact vArr_at n _ i hi) w, run_part_flat hf (by rw [Nat.mul_one]; exact vArr_at n _ i hi) w, by simp [Op.equalIn, run_underlying he]⟩
/-- Two arrays of arrays of integers compared. -/
theorem run_eql_intsM {P : Program} {t e e' : TypeId} {n m : Nat} {k : IntKind} (ht : P.underlying t = some (.array n e)) (he : P.underlying e = some (.array m e')) (he' : P.underlying e' = some (.int k)) (hf : flat P e' = true) (hs : (P.info? e').map (·.size) = some 1) (hm : (P.info? e).map (·.size) = some m) (d : Nat) (f g : Nat → Int) (w : World) :
    (Op.equalIn (d + 3) t (.agg (vArr (n * m) fun i => .int k (f i))) (.agg (vArr (n * m) fun i => .int k (g i)))).run P w = .ok ((List.range n).all fun i => (List.range m).all fun j => f (i * m + j) == g (i * m + j)) w :=
  run_equalIn_arrayM w (d + 2) t e n m _ _ _ ht (run_sizeOf hm w) fun i hi => by
    have hle : i * m + m ≤ n * m := by rw [← Nat.succ_mul]; exact Nat.mul_le_mul_right _ hi
    have h1 := run_part_agg he hm (vArr (n * m) fun i => .int k (f i)) (i * m) w
    have h2 := run_part_agg he hm (vArr (n * m) fun i => .int k (g i)) (i * m) w
    rw [vArr_extract _ _ _ _ hle] at h1 h2
    exact ⟨_, _, h1, h2, run_eql_ints he he' hf hs d (fun j => f (i * m + j)) (fun j => g (i * m + j)) w⟩
end Go.Proofs.YtccimkmlbcgekaaGreat
namespace Go.Proofs.YtccimkmlbcgekaaGreat
open Go
section
variable {P : Program} {ops : Array Oper} {Q : Exit → Act → World → Prop} {md : Region.Mode} {S : World → Prop}
theorem rg_at {i : Nat} {oi : Oper} (h : ops.toList[i]? = some oi) : ops[i]? = some oi := by rw [← Array.getElem?_toList]; exact h
theorem rg_begin {id : Nat} {a : Act} {w : World} (n : Nat) (l : Array Bool) (hn : ops.size = n) (hl : Array.replicate n false = l) (hm : P.follows .mixedOrders = true) (hS : S w.drew)
    (h : S w.drew → wpAnyH P .any ops Q S n l a w.drew) : (Code.region id ops true).wp P Q a w :=
  wp_region_held_drew hm hS (by rw [hn, hl]; exact h)
theorem rg_take {i : Nat} {d : Option Tmp} {oi : Oper} {v : Value} {fuel : Nat} {listed l : Array Bool} {a : Act} {w : World} (hi : ops.toList[i]? = some oi) (hd : oi.dst = d) (hl : listed.setIfInBounds i true = l)
    (hs : Region.noSelect ops = true) (hf : Region.free md ops listed i = true) (hr : (Region.ready md ops listed).contains i = true)
    (hQ : ∀ c a w, Q (.panic c) (a.put d v) w → Q (.panic c) a w) (hw : Region.wanted oi (yielded ops a.tmps) = true) (hy : ∀ w, S w → (execOp a.eval oi).run P w = .ok (.value v) w) (hS : S w)
    (h : wpAnyH P md ops Q S fuel l (a.put d v) w) : wpAnyH P md ops Q S (fuel + 1) listed a w := by
  subst hd hl
  exact wpAnyH_take (rg_at hi) hs hf hr hQ (Or.inl ⟨hw, hy⟩) hS h
theorem rg_skip {i : Nat} {d : Option Tmp} {oi : Oper} {fuel : Nat} {listed l : Array Bool} {a : Act} {w : World} (hi : ops.toList[i]? = some oi) (hd : oi.dst = d) (hl : listed.setIfInBounds i true = l)
    (hs : Region.noSelect ops = true) (hf : Region.free md ops listed i = true) (hr : (Region.ready md ops listed).contains i = true)
    (hQ : ∀ c a w, Q (.panic c) (a.put d undef) w → Q (.panic c) a w) (hw : Region.wanted oi (yielded ops a.tmps) = false) (hS : S w)
    (h : wpAnyH P md ops Q S fuel l (a.put d undef) w) : wpAnyH P md ops Q S (fuel + 1) listed a w := by
  subst hd hl
  exact wpAnyH_take (rg_at hi) hs hf hr hQ (Or.inr ⟨hw, rfl⟩) hS h
theorem rg_next {i : Nat} {oi : Oper} {fuel : Nat} {listed l : Array Bool} {a : Act} {w : World} (hr : Region.ready md ops listed = [i]) (hi : ops.toList[i]? = some oi) (hl : listed.setIfInBounds i true = l)
    (hw : Region.wanted oi (yielded ops a.tmps) = true) (h : ∀ K' : Act → World → Prop, Shut (∀ a w, S w → (S w → wpAnyH P md ops Q S fuel l a w) → K' a w) → Oper.wp P oi a w K' Q) :
    wpAnyH P md ops Q S (fuel + 1) listed a w := by
  subst hl
  refine wpAnyH_ready hr (by simp) (AllReadyH.cons (rg_at hi) (fun K hK => ?_) AllReadyH.nil)
  rw [if_pos hw]
  exact h K hK
end
theorem exec_load_row {P : Program} {o : Oper} {ρ : Operand → Value} {w : World} (ty : TypeId) (x : Operand) (ho : o.op = .load ty x) (g : Nat) (hx : ρ x = .pointer (some ⟨g, 0, none⟩)) (t : TypeId) (cs : Array Value) (fr : Nat × Nat) (d : TypeDesc)
    (hg : w.heap[g]? = some (.cells cs t fr)) (hu : P.underlying ty = some d) (hd : (match d with | .struct _ | .array _ _ => true | _ => false) = true) (hi : (P.info? ty).map (·.size) = some cs.size) : (execOp ρ o).run P w = .ok (.value (.agg cs)) w := by
  unfold execOp
  simp only [ho, hx, Instr.loadAt, Instr.sureAddr, Sem.run_bind, Sem.run_pure, Result.andThen_ok, run_loadVar_row w g t ty cs fr d hg hu hd hi]
end Go.Proofs.YtccimkmlbcgekaaGreat
