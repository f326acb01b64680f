/-
  Texts of these proofs, one behind the other: G28.
-/
import Derived.Test.YtnhnphifhkkboaaDoorKSW13
import Derived.OrdersIn
import Derived.RangeFuncBox
import Derived.OwnWalkIn
namespace Go.Proofs.YtnhnphifhkkboaaDoor
open Go Go.RowKit
set_option linter.unusedVariables false
theorem wpAnyIn_inv {F : Fence} {n : Nat} {P : Program} {md : Region.Mode} {ops : Array Oper} {Q : Exit → Act → World → Prop} (I : Nat → Array Bool → Act → World → Prop)
    (h0 : ∀ listed a w, I 0 listed a w → Region.ready md ops listed = [])
    (he : ∀ k listed a w, I k listed a w → Region.ready md ops listed = [] → Q .normal a w)
    (hs : ∀ k listed a w, I (k + 1) listed a w → ∀ i ∈ Region.ready md ops listed, wpOpIn F n P ops Q i (I k (listed.setIfInBounds i true)) a w) :
    ∀ fuel listed a w, I fuel listed a w → wpAnyIn F n P md ops Q fuel listed a w
  | 0, listed, a, w, h => ⟨h0 _ _ _ h, he _ _ _ _ h (h0 _ _ _ h)⟩
  | fuel + 1, listed, a, w, h => ⟨he _ _ _ _ h, fun i hi => wpOpIn_mono (fun a w h => wpAnyIn_inv I h0 he hs fuel _ a w h) (hs _ _ _ _ h i hi)⟩
/-- What comes up has not been done, and what it waits for has; nothing comes up just when all is done. -/
def rdOk (N : Nat) (md : Region.Mode) (ops : Array Oper) (deps : List (List Nat)) (l : Array Bool) : Bool :=
  (Region.ready md ops l).all (fun i => decide (i < N) && l[i]? == some false && (deps.getD i []).all fun d => l[d]? == some true) && ((Region.ready md ops l).isEmpty == l.toList.all id)
theorem count_set_ : ∀ (l : List Bool) (i : Nat), l[i]? = some false → (l.set i true).count false + 1 = l.count false
  | [], i, h => by simp at h
  | b :: l, 0, h => by
    simp only [List.getElem?_cons_zero, Option.some.injEq] at h
    subst h
    simp
  | b :: l, i + 1, h => by
    simp only [List.getElem?_cons_succ] at h
    have := count_set_ l i h
    simp only [List.set_cons_succ, List.count_cons]
    omega
theorem all_id_rep : ∀ (l : List Bool), l.all id = true → l = List.replicate l.length true
  | [], _ => rfl
  | b :: l, h => by
    simp only [List.all_cons, id, Bool.and_eq_true] at h
    obtain ⟨rfl, h⟩ := h
    rw [List.length_cons, List.replicate_succ, ← all_id_rep l h]
theorem all_of_count : ∀ (l : List Bool), l.count false = 0 → l.all id = true
  | [], _ => rfl
  | b :: l, h => by
    cases b
    · simp at h
    · simp only [List.all_cons, id, Bool.true_and]
      exact all_of_count l (by simpa using h)
theorem wpAnyIn_slots {F : Fence} {n : Nat} {P : Program} {md : Region.Mode} {ops : Array Oper} {Q : Exit → Act → World → Prop} (N : Nat) (deps : List (List Nat)) (A : Array Bool → Act) (S : Array Bool → World → Prop)
    (hr : ∀ l : Array Bool, l.size = N → rdOk N md ops deps l = true)
    (hstep : ∀ i l w, i < N → l.size = N → l[i]? = some false → (∀ d ∈ deps.getD i [], l[d]? = some true) → (∀ j, l[j]? = some true → ∀ d ∈ deps.getD j [], l[d]? = some true) → S l w → wpOpIn F n P ops Q i (fun a' w' => a' = A (l.setIfInBounds i true) ∧ S (l.setIfInBounds i true) w') (A l) w)
    (hend : ∀ w, S (Array.replicate N true) w → Q .normal (A (Array.replicate N true)) w) :
    ∀ fuel l w, l.size = N → l.toList.count false = fuel → (∀ j, l[j]? = some true → ∀ d ∈ deps.getD j [], l[d]? = some true) → S l w → wpAnyIn F n P md ops Q fuel l (A l) w := by
  have key : ∀ l w, l.size = N → S l w → Region.ready md ops l = [] → Q .normal (A l) w := fun l w hl hS h0 => by
    have h := hr l hl
    unfold rdOk at h
    rw [h0] at h
    simp only [List.all_nil, List.isEmpty_nil, Bool.true_and, beq_iff_eq] at h
    have e : l = Array.replicate N true := by
      apply Array.toList_inj.1
      rw [all_id_rep l.toList h.symm]
      simp [hl]
    subst e
    exact hend w hS
  intro fuel
  induction fuel with
  | zero =>
    intro l w hl hc _ hS
    have h0 : Region.ready md ops l = [] := by
      have h := hr l hl
      unfold rdOk at h
      rw [all_of_count _ hc, Bool.and_eq_true] at h
      have := h.2
      simp only [beq_iff_eq] at this
      simpa using this
    exact ⟨h0, key l w hl hS h0⟩
  | succ fuel ih =>
    intro l w hl hc hcl hS
    refine ⟨key l w hl hS, fun i hi => ?_⟩
    have h := hr l hl
    unfold rdOk at h
    rw [Bool.and_eq_true] at h
    have h1 := List.all_eq_true.1 h.1 i hi
    simp only [Bool.and_eq_true, decide_eq_true_eq, beq_iff_eq, List.all_eq_true] at h1
    obtain ⟨⟨h2, h3⟩, h4⟩ := h1
    refine wpOpIn_mono (fun a' w' hh => ?_) (hstep i l w h2 hl h3 h4 hcl hS)
    obtain ⟨rfl, hS'⟩ := hh
    refine ih _ _ (by simpa using hl) ?_ ?_ hS'
    · have := count_set_ l.toList i (by simpa using h3)
      rw [Array.toList_setIfInBounds]
      omega
    · have keep : ∀ d, l[d]? = some true → (l.setIfInBounds i true)[d]? = some true := fun d hd => by
        by_cases e : i = d
        · subst e
          rw [h3] at hd
          cases hd
        · rw [Array.getElem?_setIfInBounds_ne e]
          exact hd
      intro j hj d hd
      by_cases e : i = j
      · subst e
        exact keep d (h4 d hd)
      · rw [Array.getElem?_setIfInBounds_ne e] at hj
        exact keep d (hcl j hj d hd)
theorem arr8 {l : Array Bool} (h : l.size = 8) : ∃ b0 b1 b2 b3 b4 b5 b6 b7, l = #[b0, b1, b2, b3, b4, b5, b6, b7] := by
  obtain ⟨l⟩ := l
  rcases l with _ | ⟨b0, _ | ⟨b1, _ | ⟨b2, _ | ⟨b3, _ | ⟨b4, _ | ⟨b5, _ | ⟨b6, _ | ⟨b7, _ | ⟨b8, l⟩⟩⟩⟩⟩⟩⟩⟩⟩ <;> simp at h
  exact ⟨b0, b1, b2, b3, b4, b5, b6, b7, rfl⟩
theorem arr10 {l : Array Bool} (h : l.size = 10) : ∃ b0 b1 b2 b3 b4 b5 b6 b7 b8 b9, l = #[b0, b1, b2, b3, b4, b5, b6, b7, b8, b9] := by
  obtain ⟨l⟩ := l
  rcases l with _ | ⟨b0, _ | ⟨b1, _ | ⟨b2, _ | ⟨b3, _ | ⟨b4, _ | ⟨b5, _ | ⟨b6, _ | ⟨b7, _ | ⟨b8, _ | ⟨b9, _ | ⟨b10, l⟩⟩⟩⟩⟩⟩⟩⟩⟩⟩⟩ <;> simp at h
  exact ⟨b0, b1, b2, b3, b4, b5, b6, b7, b8, b9, rfl⟩
theorem wpIn_append_any {F : Fence} {n : Nat} {P : Program} {w w' : World} {o : Oper} {a : Act} {K : Act → World → Prop} {Q : Exit → Act → World → Prop} (s x : Operand) (t : TypeId)
    (hop : o.op = Op.call { callee := Callee.builtin Builtin.append, args := #[s, x], argTypes := #[t, t] }) {v u v' : Value} (hs : a.eval s = v) (hx : a.eval x = u)
    (hrun : (Builtin.append_ #[t, t] o.type #[v, u]).run P w = .ok v' w') (h : K (a.put o.dst v') w') : Oper.wpIn F n P o a w K Q := by
  unfold Oper.wpIn
  refine ⟨?_, ?_⟩
  · simp [Oper.about, hop, resolve, Target.leads, Sem.run_pure]
  · rw [Oper.semAt_plain F _ _ (by rw [hop]; intro c hc'; cases hc')]
    simp [execOp, hop, resolve, invoke, builtin, hs, hx, hrun, Result.andThen]
    exact h
theorem own_belowG {W W' : World} {base size n : Nat} {e : TypeId} {v : Value} {xs : List Value} (h : W.ownsRow base e size v n xs) (hb : Below W.heap.size W W') : W'.ownsRow base e size v n xs := by
  refine ⟨h.1, ?_⟩
  rcases h.2 with hn | ⟨g, cap, cur, rfl, hg, hgg, rest⟩
  · exact .inl hn
  · exact .inr ⟨g, cap, cur, rfl, hg, (hb.block g (Array.getElem?_eq_some_iff.1 hgg).1).trans hgg, rest⟩
theorem keeps_below {W W' : World} (hb : Below W.heap.size W W') : KeepsOthers W W' :=
  ⟨hb.size, fun i o h _ => (hb.block i (Array.getElem?_eq_some_iff.1 h).1).trans h⟩
/-- A slot whose operation is done, or not. -/
def sl (b : Bool) (v : Value) : Value := bif b then v else undef
theorem blk_not_row {W : World} {B : Nat} {t e : TypeId} {cs : Array Value} (h : Blk W B t cs) (hte : t ≠ e) {base size k : Nat} {v : Value} {xs : List Value} (hr : W.ownsRow base e size v k xs) : some B ≠ v.ownBlock := by
  rcases hr.2 with ⟨rfl, _⟩ | ⟨g, cap, cur, rfl, _, hgb, _⟩
  · simp [Value.ownBlock]
  · intro e'
    obtain rfl : B = g := by simpa [Value.ownBlock] using e'
    have := (show W.heap[B]? = _ from h).symm.trans hgb
    simp at this
    exact hte this.2
end Go.Proofs.YtnhnphifhkkboaaDoor
