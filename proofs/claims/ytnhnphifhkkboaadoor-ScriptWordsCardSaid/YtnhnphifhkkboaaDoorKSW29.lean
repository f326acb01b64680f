/-
  Texts of these proofs, one behind the other: G26.
-/
import Derived.Test.YtnhnphifhkkboaaDoorKSW28
import Derived.Test.YtnhnphifhkkboaaDoorKSW13
namespace Go.Proofs.YtnhnphifhkkboaaDoor
open Go Go.RowKit
set_option linter.unusedVariables false
/-- A variable that the region makes: its operation, its slot, its type, its cells, what the slot held. -/
structure AlS where
  i : Nat
  d : Tmp
  t : TypeId
  cs : Array Value
  old : Value
def AlS.val (x : AlS) : Option Nat → Value
  | none => x.old
  | some g => .pointer (some ⟨g, 0, none⟩)
def putO : List AlS → List (Option Nat) → Act → Act
  | x :: A, o :: os, a => putO A os (a.put (some x.d) (x.val o))
  | _, _, a => a
def markB : List AlS → List Bool → Array Bool → Array Bool
  | x :: A, b :: bs, l => markB A bs (l.setIfInBounds x.i b)
  | _, _, l => l
def pend : List (Option Nat) → Nat
  | [] => 0
  | none :: os => pend os + 1
  | some _ :: os => pend os
theorem pend_set : ∀ {os : List (Option Nat)} {k : Nat} {g : Nat}, os[k]? = some none → pend os = pend (os.set k (some g)) + 1
  | o :: os, 0, g, h => by
    simp only [List.getElem?_cons_zero, Option.some.injEq] at h
    subst h
    rfl
  | o :: os, k + 1, g, h => by
    simp only [List.getElem?_cons_succ] at h
    cases o <;> simp only [List.set_cons_succ, pend, pend_set (g := g) h]
theorem pend_none : ∀ n : Nat, pend (List.replicate n none) = n
  | 0 => rfl
  | n + 1 => by simp only [List.replicate_succ, pend, pend_none n]
theorem pend_zero : ∀ {os : List (Option Nat)}, pend os = 0 → ∃ gs : List Nat, os = gs.map some
  | [], _ => ⟨[], rfl⟩
  | some g :: os, h => by
    obtain ⟨gs, e⟩ := pend_zero (os := os) h
    exact ⟨g :: gs, by rw [e]; rfl⟩
theorem pend_all (gs : List Nat) : pend (gs.map some) = 0 := by
  induction gs with
  | nil => rfl
  | cons g gs ih => simpa [pend] using ih
theorem set_set_ne {α : Type} (a : Array α) {d e : Nat} (h : d ≠ e) (u v : α) : (a.setIfInBounds d u).setIfInBounds e v = (a.setIfInBounds e v).setIfInBounds d u := by
  apply Array.ext_getElem?
  intro j
  by_cases h1 : e = j
  · subst h1
    rw [Array.getElem?_setIfInBounds_ne h]
    by_cases h2 : e < a.size
    · rw [Array.getElem?_setIfInBounds_self_of_lt (by simpa using h2), Array.getElem?_setIfInBounds_self_of_lt h2]
    · rw [Array.getElem?_eq_none (by simp; omega), Array.getElem?_eq_none (by simp; omega)]
  · rw [Array.getElem?_setIfInBounds_ne h1]
    by_cases h2 : d = j
    · subst h2
      by_cases h3 : d < a.size
      · rw [Array.getElem?_setIfInBounds_self_of_lt h3, Array.getElem?_setIfInBounds_self_of_lt (by simpa using h3)]
      · rw [Array.getElem?_eq_none (by simp; omega), Array.getElem?_eq_none (by simp; omega)]
    · rw [Array.getElem?_setIfInBounds_ne h2, Array.getElem?_setIfInBounds_ne h2, Array.getElem?_setIfInBounds_ne h1]
theorem set_set_same {α : Type} (a : Array α) (d : Nat) (u v : α) : (a.setIfInBounds d u).setIfInBounds d v = a.setIfInBounds d v := by
  apply Array.ext_getElem?
  intro j
  by_cases e : d = j
  · subst e
    by_cases h : d < a.size
    · rw [Array.getElem?_setIfInBounds_self_of_lt (by simpa using h), Array.getElem?_setIfInBounds_self_of_lt h]
    · rw [Array.getElem?_eq_none (by simp; omega), Array.getElem?_eq_none (by simp; omega)]
  · rw [Array.getElem?_setIfInBounds_ne e, Array.getElem?_setIfInBounds_ne e, Array.getElem?_setIfInBounds_ne e]
theorem put_put_same (a : Act) (d : Tmp) (u v : Value) : (a.put (some d) u).put (some d) v = a.put (some d) v := by
  unfold Act.put
  simp only [Act.mk.injEq, and_true]
  exact set_set_same _ _ _ _
theorem put_put_ne (a : Act) {d e : Tmp} (h : d ≠ e) (u v : Value) : (a.put (some d) u).put (some e) v = (a.put (some e) v).put (some d) u := by
  unfold Act.put
  simp only [Act.mk.injEq, and_true]
  exact set_set_ne _ h _ _
theorem putO_put : ∀ {A : List AlS} {os : List (Option Nat)} {a : Act} {d : Tmp} {v : Value}, (∀ x ∈ A, x.d ≠ d) → (putO A os a).put (some d) v = putO A os (a.put (some d) v)
  | [], _, _, _, _, _ => rfl
  | x :: A, [], _, _, _, _ => rfl
  | x :: A, o :: os, a, d, v, h => by
    simp only [putO]
    rw [putO_put fun y hy => h y (by simp [hy]), put_put_ne a (h x (by simp))]
theorem putO_set : ∀ {A : List AlS} {os : List (Option Nat)} {a : Act} {k : Nat} {x : AlS} {g : Nat}, (A.map (·.d)).Nodup → A[k]? = some x → k < os.length → putO A (os.set k (some g)) a = (putO A os a).put (some x.d) (.pointer (some ⟨g, 0, none⟩))
  | y :: A, [], _, _, _, _, _, _, h => absurd h (by simp)
  | y :: A, o :: os, a, 0, x, g, hn, hx, _ => by
    simp only [List.getElem?_cons_zero, Option.some.injEq] at hx
    subst hx
    simp only [List.set_cons_zero, putO]
    simp only [List.map_cons, List.nodup_cons, List.mem_map, not_exists, not_and] at hn
    rw [putO_put fun z hz => fun e => hn.1 z hz e, put_put_same]
    rfl
  | y :: A, o :: os, a, k + 1, x, g, hn, hx, hk => by
    simp only [List.getElem?_cons_succ] at hx
    simp only [List.set_cons_succ, putO]
    simp only [List.map_cons, List.nodup_cons] at hn
    exact putO_set hn.2 hx (by simpa using hk)
theorem markB_set : ∀ {A : List AlS} {bs : List Bool} {l : Array Bool} {j : Nat} {b : Bool}, (∀ x ∈ A, x.i ≠ j) → (markB A bs l).setIfInBounds j b = markB A bs (l.setIfInBounds j b)
  | [], _, _, _, _, _ => rfl
  | x :: A, [], _, _, _, _ => rfl
  | x :: A, c :: bs, l, j, b, h => by
    simp only [markB]
    rw [markB_set fun y hy => h y (by simp [hy]), set_set_ne l (h x (by simp))]
theorem markB_put : ∀ {A : List AlS} {bs : List Bool} {l : Array Bool} {k : Nat} {x : AlS}, (A.map (·.i)).Nodup → A[k]? = some x → k < bs.length → markB A (bs.set k true) l = (markB A bs l).setIfInBounds x.i true
  | y :: A, [], _, _, _, _, _, h => absurd h (by simp)
  | y :: A, c :: bs, l, 0, x, hn, hx, _ => by
    simp only [List.getElem?_cons_zero, Option.some.injEq] at hx
    subst hx
    simp only [List.set_cons_zero, markB]
    simp only [List.map_cons, List.nodup_cons, List.mem_map, not_exists, not_and] at hn
    rw [markB_set fun z hz => fun e => hn.1 z hz e, set_set_same]
  | y :: A, c :: bs, l, k + 1, x, hn, hx, hk => by
    simp only [List.getElem?_cons_succ] at hx
    simp only [List.set_cons_succ, markB]
    simp only [List.map_cons, List.nodup_cons] at hn
    exact markB_put hn.2 hx (by simpa using hk)
/-- What of them has been made lies in blocks of its own, made since w0. -/
def AlF (B : Nat) (w0 : World) (A : List AlS) (os : List (Option Nat)) (w : World) : Prop :=
  os.length = A.length ∧ (∀ (k : Nat) (x : AlS) (g : Nat), A[k]? = some x → os[k]? = some (some g) → Blk w g x.t x.cs ∧ B ≤ g) ∧ (∀ (k k' g : Nat), os[k]? = some (some g) → os[k']? = some (some g) → k = k') ∧ Below B w0 w ∧ B ≤ w.heap.size
section
variable {B : Nat} {w0 w w' : World} {A : List AlS} {os : List (Option Nat)}
theorem AlF.none_ (A : List AlS) (h : Below B w0 w) (hB : B ≤ w.heap.size) : AlF B w0 A (List.replicate A.length none) w :=
  ⟨by simp, fun k x g _ h => by simp [List.getElem?_replicate] at h, fun k k' g h => by simp [List.getElem?_replicate] at h, h, hB⟩
theorem AlF.later (h : AlF B w0 A os w) (hb : Below w.heap.size w w') : AlF B w0 A os w' := by
  obtain ⟨h1, h2, h3, h4, h5⟩ := h
  exact ⟨h1, fun k x g hx ho => ⟨(h2 k x g hx ho).1.below hb (h2 k x g hx ho).1.lt, (h2 k x g hx ho).2⟩, h3, h4.trans (hb.mono h5), Nat.le_trans h5 hb.size⟩
theorem AlF.made (h : AlF B w0 A os w) {k : Nat} {x : AlS} (hx : A[k]? = some x) (ho : os[k]? = some none) : AlF B w0 A (os.set k (some w.heap.size)) (w.alloc (.cells x.cs x.t)) := by
  obtain ⟨h1, h2, h3, h4, h5⟩ := h
  have hk : k < os.length := (List.getElem?_eq_some_iff.1 ho).1
  have key : ∀ j g, (os.set k (some w.heap.size))[j]? = some (some g) → (j = k ∧ g = w.heap.size) ∨ (j ≠ k ∧ os[j]? = some (some g)) := fun j g hj => by
    by_cases e : k = j
    · subst e
      rw [List.getElem?_set_self hk] at hj
      simp only [Option.some.injEq] at hj
      exact .inl ⟨rfl, hj.symm⟩
    · rw [List.getElem?_set_ne e] at hj
      exact .inr ⟨fun x => e x.symm, hj⟩
  refine ⟨by simpa using h1, fun j y g hy hg => ?_, fun j j' g hj hj' => ?_, h4.alloc h5 _, by simp; omega⟩
  · rcases key j g hg with ⟨rfl, rfl⟩ | ⟨_, hg⟩
    · rw [hx] at hy
      cases hy
      exact ⟨Blk.new w _ _, h5⟩
    · exact ⟨(h2 j y g hy hg).1.alloc _, (h2 j y g hy hg).2⟩
  · have blt : ∀ i, os[i]? = some (some g) → g < w.heap.size := fun i hi => by
      have hil : i < A.length := by rw [← h1]; exact (List.getElem?_eq_some_iff.1 hi).1
      exact (h2 i _ g (List.getElem?_eq_getElem hil) hi).1.lt
    rcases key j g hj with ⟨rfl, rfl⟩ | ⟨n1, e1⟩
    · rcases key j' _ hj' with ⟨rfl, _⟩ | ⟨_, e2⟩
      · rfl
      · exact absurd (blt _ e2) (by omega)
    · rcases key j' g hj' with ⟨rfl, rfl⟩ | ⟨_, e2⟩
      · exact absurd (blt _ e1) (by omega)
      · exact h3 j j' g e1 e2
end
def allBs : Nat → List (List Bool)
  | 0 => [[]]
  | n + 1 => (allBs n).map (false :: ·) ++ (allBs n).map (true :: ·)
theorem mem_allBs : ∀ bs : List Bool, bs ∈ allBs bs.length
  | [] => by simp [allBs]
  | b :: bs => by
    have := mem_allBs bs
    cases b <;> simp [allBs, this]
def pendB : List AlS → List Bool → Nat → Bool
  | x :: A, b :: bs, i => (x.i == i && !b) || pendB A bs i
  | _, _, _ => false
theorem pendB_at : ∀ {A : List AlS} {os : List (Option Nat)} {i : Nat}, pendB A (os.map Option.isSome) i = true → ∃ (k : Nat) (x : AlS), A[k]? = some x ∧ os[k]? = some none ∧ x.i = i
  | [], _, _, h => by simp [pendB] at h
  | x :: A, [], _, h => by simp [pendB] at h
  | x :: A, o :: os, i, h => by
    simp only [List.map_cons, pendB, Bool.or_eq_true, Bool.and_eq_true, beq_iff_eq, Bool.not_eq_true'] at h
    rcases h with ⟨e, hn⟩ | h
    · cases o with
      | none => exact ⟨0, x, rfl, rfl, e⟩
      | some g => cases hn
    · obtain ⟨k, y, h1, h2, h3⟩ := pendB_at h
      exact ⟨k + 1, y, h1, h2, h3⟩
section
variable {P : Program} {ops : Array Oper} {Q : Exit → Act → World → Prop} {md : Region.Mode} {S : World → Prop}
/-- An operation that makes a variable. -/
def AlOk (P : Program) (ops : Array Oper) (x : AlS) : Prop := ∃ oi, ops[x.i]? = some oi ∧ oi.dst = some x.d ∧ oi.guard = none ∧ ∀ (ρ : Operand → Value) (w : World), (execOp ρ oi).run P w = .ok (.value (.pointer (some ⟨w.heap.size, 0, none⟩))) (w.alloc (.cells x.cs x.t))
theorem AlOk.of {x : AlS} {oi : Oper} {v : Value} (h1 : ops.toList[x.i]? = some oi) (h2 : oi.dst = some x.d) (h3 : oi.guard = none) (h4 : oi.op = .alloc x.t) (hz : ∀ w, (zeroValue x.t).run P w = .ok v w) (hv : v.cells = x.cs) : AlOk P ops x :=
  ⟨oi, rg_at h1, h2, h3, fun ρ w => by
    unfold execOp
    simp [h4, Instr.alloc, hz, newVar, newRow, hv]⟩
/-- Whatever has been made of them: from here on the region comes to its end. -/
def RgC (P : Program) (md : Region.Mode) (ops : Array Oper) (Q : Exit → Act → World → Prop) (S : World → Prop) (fuel : Nat) (l : Array Bool) (a : Act) (A : List AlS) (B : Nat) (w0 : World) : Prop :=
  ∀ os w, AlF B w0 A os w → S w → wpAnyH P md ops Q S (fuel + pend os) (markB A (os.map Option.isSome) l) (putO A os a) w
theorem RgC.start {fuel fuel0 : Nat} {l : Array Bool} {a : Act} {B : Nat} {w0 w : World} (A : List AlS) (h : RgC P md ops Q S fuel l a A B w0) (hl : markB A (List.replicate A.length false) l = l) (ha : putO A (List.replicate A.length none) a = a) (hf : fuel0 = fuel + A.length)
    (hb : Below B w0 w) (hB : B ≤ w.heap.size) (hS : S w) : wpAnyH P md ops Q S fuel0 l a w := by
  have := h _ w (AlF.none_ A hb hB) hS
  rw [pend_none, ha] at this
  have e : (List.replicate A.length (none : Option Nat)).map Option.isSome = List.replicate A.length false := by simp
  rw [e, hl] at this
  rw [hf]
  exact this
/-- What may come up: the one call, or one of the variables that haven't been made. -/
def upOk (md : Region.Mode) (ops : Array Oper) (A : List AlS) (l : Array Bool) (oj : Option Nat) : Bool :=
  (allBs A.length).all fun bs => (bs.all id && oj.isNone) || (!(Region.ready md ops (markB A bs l)).isEmpty && (Region.ready md ops (markB A bs l)).all fun i => (oj == some i) || pendB A bs i)
theorem wp_made {K : Act → World → Prop} {x : AlS} {a : Act} {w : World} (h : AlOk P ops x) (hk : K (a.put (some x.d) (.pointer (some ⟨w.heap.size, 0, none⟩))) (w.alloc (.cells x.cs x.t))) : wpOp P ops Q x.i K a w := by
  obtain ⟨oi, h1, h2, h3, h4⟩ := h
  unfold wpOp
  simp only [h1]
  rw [if_pos (by simp [Region.wanted, h3])]
  refine .inl ?_
  unfold Oper.wp
  rw [h4, Oper.upon_value, h2]
  exact hk
variable {fuel : Nat} {l : Array Bool} {a : Act} {A : List AlS} {B : Nat} {w0 : World}
/-- One call: whatever has been made, it comes to the same. -/
theorem RgC.call {j : Nat} {oj : Oper} {d : Tmp} {V : Value → Prop} (hi : ops.toList[j]? = some oj) (hd : oj.dst = some d) (hg : oj.guard = none) (hup : upOk md ops A l (some j) = true) (hA : ∀ x ∈ A, AlOk P ops x) (hS : ∀ w w', S w → Below w.heap.size w w' → S w')
    (nd : (A.map (·.d)).Nodup) (ni : (A.map (·.i)).Nodup) (hdj : (A.all fun x => x.d != d && x.i != j) = true)
    (h : ∀ os w, AlF B w0 A os w → S w → ∀ K : Act → World → Prop, Shut (∀ v w', V v → Below w.heap.size w w' → K ((putO A os a).put (some d) v) w') → Oper.wp P oj (putO A os a) w K Q)
    (next : ∀ v, V v → RgC P md ops Q S fuel (l.setIfInBounds j true) (a.put (some d) v) A B w0) : RgC P md ops Q S (fuel + 1) l a A B w0 := by
  have hdj2 : ∀ x ∈ A, x.d ≠ d ∧ x.i ≠ j := fun x hx => by
    have := List.all_eq_true.1 hdj x hx
    simpa using this
  intro os
  generalize hn : pend os = n
  induction n generalizing os with
  | zero =>
    intro w hF hw
    have hup2 := List.all_eq_true.1 hup (os.map Option.isSome) (by have := mem_allBs (os.map Option.isSome); rwa [List.length_map, hF.1] at this)
    simp only [Option.isNone_some, Bool.and_false, Bool.false_or, Bool.and_eq_true, Bool.not_eq_true', List.all_eq_true, Bool.or_eq_true, beq_iff_eq, Option.some.injEq] at hup2
    obtain ⟨u1, u2⟩ := hup2
    show wpAnyH P md ops Q S (fuel + 0 + 1) _ _ _
    refine ⟨fun e => (by rw [e] at u1; cases u1), fun i hii => ?_⟩
    rcases u2 i hii with rfl | hp
    · unfold wpOp
      simp only [rg_at hi]
      rw [if_pos (by simp [Region.wanted, hg])]
      refine .inl (h os w hF hw _ fun v w' hv hb => ⟨hS w w' hw hb, ?_⟩)
      have := next v hv os w' (hF.later hb) (hS w w' hw hb)
      rw [hn] at this
      rw [putO_put fun x hx => (hdj2 x hx).1, markB_set fun x hx => (hdj2 x hx).2]
      exact this
    · obtain ⟨k, x, hx, ho, rfl⟩ := pendB_at hp
      have := pend_set (g := 0) ho
      omega
  | succ n ih =>
    intro w hF hw
    have hup2 := List.all_eq_true.1 hup (os.map Option.isSome) (by have := mem_allBs (os.map Option.isSome); rwa [List.length_map, hF.1] at this)
    simp only [Option.isNone_some, Bool.and_false, Bool.false_or, Bool.and_eq_true, Bool.not_eq_true', List.all_eq_true, Bool.or_eq_true, beq_iff_eq, Option.some.injEq] at hup2
    obtain ⟨u1, u2⟩ := hup2
    rw [show fuel + 1 + (n + 1) = fuel + (n + 1) + 1 by omega]
    refine ⟨fun e => (by rw [e] at u1; cases u1), fun i hii => ?_⟩
    rcases u2 i hii with rfl | hp
    · unfold wpOp
      simp only [rg_at hi]
      rw [if_pos (by simp [Region.wanted, hg])]
      refine .inl (h os w hF hw _ fun v w' hv hb => ⟨hS w w' hw hb, ?_⟩)
      have := next v hv os w' (hF.later hb) (hS w w' hw hb)
      rw [hn] at this
      rw [putO_put fun x hx => (hdj2 x hx).1, markB_set fun x hx => (hdj2 x hx).2]
      exact this
    · obtain ⟨k, x, hx, ho, rfl⟩ := pendB_at hp
      have hk : k < os.length := (List.getElem?_eq_some_iff.1 ho).1
      have hbw : Below w.heap.size w (w.alloc (.cells x.cs x.t)) := (Below.refl _ w).alloc (Nat.le_refl _) _
      refine wp_made (hA x (List.mem_of_getElem? hx)) ⟨hS w _ hw hbw, ?_⟩
      have e := pend_set (g := w.heap.size) ho
      have := ih (os.set k (some w.heap.size)) (by omega) (w.alloc (.cells x.cs x.t)) (hF.made hx ho) (hS w _ hw hbw)
      rw [putO_set nd hx hk] at this
      rw [← markB_put ni hx (by simpa using hk)]
      rw [List.map_set, show fuel + 1 + n = fuel + (n + 1) by omega] at this
      exact this
/-- At the end all have been made. -/
theorem RgC.fin (hup : upOk md ops A l none = true) (hA : ∀ x ∈ A, AlOk P ops x) (hS : ∀ w w', S w → Below w.heap.size w w' → S w') (nd : (A.map (·.d)).Nodup) (ni : (A.map (·.i)).Nodup)
    (h : ∀ gs : List Nat, ∀ w, AlF B w0 A (gs.map some) w → S w → wpAnyH P md ops Q S fuel (markB A (List.replicate A.length true) l) (putO A (gs.map some) a) w) : RgC P md ops Q S fuel l a A B w0 := by
  intro os
  generalize hn : pend os = n
  induction n generalizing os with
  | zero =>
    intro w hF hw
    obtain ⟨gs, rfl⟩ := pend_zero hn
    have e : (gs.map some).map Option.isSome = List.replicate A.length true := by
      rw [← hF.1]
      simp [List.map_map, Function.comp_def, List.map_const']
    rw [e]
    exact h gs w hF hw
  | succ n ih =>
    intro w hF hw
    have hup2 := List.all_eq_true.1 hup (os.map Option.isSome) (by have := mem_allBs (os.map Option.isSome); rwa [List.length_map, hF.1] at this)
    have hna : (os.map Option.isSome).all id = false := by
      apply Bool.eq_false_iff.2
      intro hall
      have : ∀ o ∈ os, o.isSome = true := fun o ho => by
        have := List.all_eq_true.1 hall (o.isSome) (List.mem_map.2 ⟨o, ho, rfl⟩)
        simpa using this
      have : pend os = 0 := by
        clear hn ih hF hup2 hall
        induction os with
        | nil => rfl
        | cons o os ih2 =>
          cases o with
          | none => exact absurd (this none (by simp)) (by simp)
          | some g => simp only [pend]; exact ih2 fun o ho => this o (by simp [ho])
      omega
    simp only [hna, Bool.false_and, Bool.false_or, Bool.and_eq_true, Bool.not_eq_true', List.all_eq_true, Bool.or_eq_true, beq_iff_eq, reduceCtorEq, false_or] at hup2
    obtain ⟨u1, u2⟩ := hup2
    show wpAnyH P md ops Q S (fuel + n + 1) _ _ _
    refine ⟨fun e => (by rw [e] at u1; cases u1), fun i hii => ?_⟩
    obtain ⟨k, x, hx, ho, rfl⟩ := pendB_at (u2 i hii)
    have hk : k < os.length := (List.getElem?_eq_some_iff.1 ho).1
    have hbw : Below w.heap.size w (w.alloc (.cells x.cs x.t)) := (Below.refl _ w).alloc (Nat.le_refl _) _
    refine wp_made (hA x (List.mem_of_getElem? hx)) ⟨hS w _ hw hbw, ?_⟩
    have e := pend_set (g := w.heap.size) ho
    have := ih (os.set k (some w.heap.size)) (by omega) (w.alloc (.cells x.cs x.t)) (hF.made hx ho) (hS w _ hw hbw)
    rw [putO_set nd hx hk] at this
    rw [← markB_put ni hx (by simpa using hk)]
    rw [List.map_set] at this
    exact this
end
end Go.Proofs.YtnhnphifhkkboaaDoor
