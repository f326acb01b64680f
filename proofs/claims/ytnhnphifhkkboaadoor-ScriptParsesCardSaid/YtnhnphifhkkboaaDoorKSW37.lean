/-
  Texts of these proofs, one behind the other: G29, G31.
-/
import Derived.Deep.RegionHeld3
import Derived.OrdersIn
import Derived.TacticsIn
import Derived.Deep.Draws
namespace Go.Proofs.YtnhnphifhkkboaaDoor
open Go
section
variable {F : Fence} {n : Nat} {P : Program} {ops : Array Oper} {Q : Exit → Act → World → Prop} {md : Region.Mode} {S : World → Prop}
/-- Whatever comes up, in worlds of the kind S. -/
def anyR (F : Fence) (n : Nat) (P : Program) (md : Region.Mode) (ops : Array Oper) (Q : Exit → Act → World → Prop) (S : World → Prop) : Nat → Array Bool → Act → World → Prop
  | 0, l, a, w => Region.ready md ops l = [] ∧ Q .normal a w
  | k + 1, l, a, w => (Region.ready md ops l = [] → Q .normal a w) ∧ ∀ i ∈ Region.ready md ops l, wpOpIn F n P ops Q i (fun a' w' => S w' ∧ anyR F n P md ops Q S k (l.setIfInBounds i true) a' w') a w
theorem anyR_sound : ∀ (k : Nat) (l : Array Bool) (a : Act) (w : World), anyR F n P md ops Q S k l a w → wpAnyIn F n P md ops Q k l a w
  | 0, _, _, _, h => h
  | k + 1, _, _, _, h => ⟨h.1, fun i hi => wpOpIn_mono (fun a' w' x => anyR_sound k _ a' w' x.2) (h.2 i hi)⟩
/-- In every world of the kind it yields v and does nothing else. -/
def YR (P : Program) (ops : Array Oper) (S : World → Prop) (o : Oper) (v : Value) (a : Act) : Prop := Region.wanted o (yielded ops a.tmps) = true ∧ ∀ w, S w → (execOp a.eval o).run P w = .ok (.value v) w
theorem YR.run {i : Nat} {o : Oper} {v : Value} {a : Act} {K : Act → World → Prop} {w : World} (hF : ∀ f, F.fn f) (hd : ∀ c : Call, o.op ≠ Op.defer c) (hi : ops[i]? = some o) (y : YR P ops S o v a) (hS : S w) (h : K (a.put o.dst v) w) : wpOpIn F n P ops Q i K a w := by
  unfold wpOpIn
  simp only [hi, y.1, if_true]
  exact ⟨fun f _ => hF f, by rw [Oper.semAt_eq _ _ _ hd, y.2 w hS]; exact h⟩
theorem YR.apart {j : Nat} {oi oj : Oper} {v : Value} {K : Act → World → Prop} {a : Act} {w : World} (hF : ∀ f, F.fn f) (hdj : ∀ c : Call, oj.op ≠ Op.defer c) (hj : ops[j]? = some oj) (hap : oi.apart ops oj = true)
    (hsi : ∀ cs b, oi.op ≠ .select cs b) (hsj : ∀ cs b, oj.op ≠ .select cs b) (hQ : ∀ c a w, Q (.panic c) (a.put oi.dst v) w → Q (.panic c) a w)
    (y : YR P ops S oi v a) (h : wpOpIn F n P ops Q j K (a.put oi.dst v) w) : wpOpIn F n P ops Q j (fun a' w' => YR P ops S oi v a' ∧ K (a'.put oi.dst v) w') a w := by
  obtain ⟨h1, h2, h3⟩ := Oper.apart_spec hap
  have still : ∀ u, YR P ops S oi v (a.put oj.dst u) := fun u => ⟨by rw [wanted_put oi a oj.dst u h3]; exact y.1, fun w hS => by rw [execOp_put oi hsi a oj.dst u h3]; exact y.2 w hS⟩
  have turn : ∀ u w', K ((a.put oi.dst v).put oj.dst u) w' → YR P ops S oi v (a.put oj.dst u) ∧ K ((a.put oj.dst u).put oi.dst v) w' := fun u w' q => ⟨still u, by rw [← Act.put_comm a v u h2]; exact q⟩
  unfold wpOpIn at h ⊢
  simp only [hj] at h ⊢
  rw [wanted_put oj a oi.dst v h1] at h
  cases hw : Region.wanted oj (yielded ops a.tmps) with
  | false =>
    simp only [hw, Bool.false_eq_true, if_false] at h ⊢
    exact ⟨fun f _ => hF f, turn undef w h.2⟩
  | true =>
    simp only [hw, if_true] at h ⊢
    refine ⟨fun f _ => hF f, ?_⟩
    have h := h.2
    rw [Oper.semAt_eq _ _ _ hdj, execOp_put oj hsj a oi.dst v h1] at h
    rw [Oper.semAt_eq _ _ _ hdj]
    cases hr : (execOp a.eval oj).run P w with
    | halt x w' =>
      rw [hr] at h
      cases x <;> simp only [Oper.uponIn] at h ⊢
      case panic u => exact hQ _ _ _ h
    | ok x w' =>
      rw [hr] at h
      cases x <;> simp only [Oper.uponIn] at h ⊢
      case value u => exact turn u w' h
      case skip => exact turn undef w' h
      case enter f args =>
        refine ⟨h.1, CallsIn.mono h.2 fun e w2 q => ?_⟩
        cases e with
        | returned u => exact turn u w2 q
        | panicked c => exact hQ _ _ _ q
        | outgrown => exact q
      case row r args => exact ⟨h.1, RowsIn.mono h.2 fun u w2 q => turn u w2 q⟩
      case round l f tmps assign body =>
        refine ⟨h.1, RoundIn.mono h.2 fun e w2 q => ?_⟩
        cases e with
        | returned u => exact turn u w2 q
        | panicked c => exact hQ _ _ _ q
        | outgrown => exact q
      case defer d =>
        have y2 : YR P ops S oi v { a with defers := d :: a.defers } := y
        refine ⟨⟨by rw [wanted_put oi _ oj.dst undef h3]; exact y2.1, fun w hS => by rw [execOp_put oi hsi _ oj.dst undef h3]; exact y2.2 w hS⟩, ?_⟩
        rw [← Act.put_comm _ v undef h2, ← Act.put_defers]
        exact h
theorem anyR_first {i : Nat} {oi : Oper} {v : Value} (hF : ∀ f, F.fn f) (hnd : ∀ (j : Nat) (o : Oper), ops[j]? = some o → ∀ c : Call, o.op ≠ Op.defer c) (hi : ops[i]? = some oi) (hsel : ∀ (j : Nat) (o : Oper) cs b, ops[j]? = some o → o.op ≠ .select cs b)
    (hQ : ∀ c a w, Q (.panic c) (a.put oi.dst v) w → Q (.panic c) a w) : ∀ (k : Nat) (l : Array Bool) (a : Act) (w : World),
      (∀ j oj, ops[j]? = some oj → j ≠ i → l.getD j true = false → (∀ e ∈ oj.after, Region.binds md e = true → e.on ≠ i) → oi.apart ops oj = true) →
      i ∈ Region.ready md ops l → YR P ops S oi v a → S w → anyR F n P md ops Q S k (l.setIfInBounds i true) (a.put oi.dst v) w → anyR F n P md ops Q S (k + 1) l a w := by
  intro k
  induction k with
  | zero =>
    intro l a w _ hr y hS H
    refine ⟨fun h => absurd (h ▸ hr) (by simp), fun j hj => ?_⟩
    by_cases e : j = i
    · rw [e]; exact y.run hF (hnd i oi hi) hi hS ⟨hS, H⟩
    · exact absurd (H.1 ▸ ready_mono hj e) (by simp)
  | succ k ih =>
    intro l a w hfree hr y hS H
    refine ⟨fun h => absurd (h ▸ hr) (by simp), fun j hj => ?_⟩
    by_cases e : j = i
    · rw [e]; exact y.run hF (hnd i oi hi) hi hS ⟨hS, H⟩
    · obtain ⟨hun, oj, hoj, hall⟩ := mem_ready.1 hj
      have hno : ∀ e ∈ oj.after, Region.binds md e = true → e.on ≠ i := fun e he hb q => by
        have x1 := hall e he hb
        have x0 := (mem_ready.1 hr).1
        rw [q] at x1
        rcases Nat.lt_or_ge i l.size with z | z
        · simp [z] at x0 x1; rw [x0] at x1; cases x1
        · simp [Array.getElem?_eq_none z] at x1
      refine wpOpIn_mono (fun a' w' q => ⟨q.2.1, ih (l.setIfInBounds j true) a' w' (fun m om hm hmi hu hn => hfree m om hm hmi ?_ hn) (ready_mono hr (Ne.symm e)) q.1 q.2.1 (by rw [Array.setIfInBounds_comm _ _ e]; exact q.2.2)⟩)
        (YR.apart hF (hnd j oj hoj) hoj (hfree j oj hoj e hun hno) (fun cs b => hsel i oi cs b hi) (fun cs b => hsel j oj cs b hoj) hQ y (H.2 j (ready_mono hj e)))
      by_cases z : j = m
      · rw [← z]; exact hun
      · rwa [getD_set_ne true z] at hu
theorem rr_begin {id : Nat} {a : Act} {w : World} (N : Nat) (l : Array Bool) (hn : ops.size = N) (hl : Array.replicate N false = l) (hm : P.follows .mixedOrders = true) (hS : S w.drew)
    (h : S w.drew → anyR F n P .any ops Q S N l a w.drew) : (Code.region id ops true).wpIn F n P Q a w :=
  wpIn_region_any hm (by rw [hn, hl]; exact anyR_sound _ _ _ _ (h hS))
theorem rr_take {i : Nat} {d : Option Tmp} {oi : Oper} {v : Value} {fuel : Nat} {listed l : Array Bool} {a : Act} {w : World} (hF : ∀ f, F.fn f) (hnd : (ops.toList.all fun o => match o.op with | .defer _ => false | _ => true) = true) (hi : ops.toList[i]? = some oi) (hd : oi.dst = d) (hl : listed.setIfInBounds i true = l)
    (hs : Region.noSelect ops = true) (hf : Region.free md ops listed i = true) (hr : (Region.ready md ops listed).contains i = true)
    (hQ : ∀ c a w, Q (.panic c) (a.put d v) w → Q (.panic c) a w) (hw : Region.wanted oi (yielded ops a.tmps) = true) (hy : ∀ w, S w → (execOp a.eval oi).run P w = .ok (.value v) w) (hS : S w)
    (h : anyR F n P md ops Q S fuel l (a.put d v) w) : anyR F n P md ops Q S (fuel + 1) listed a w := by
  subst hd hl
  have hi' : ops[i]? = some oi := by rw [← Array.getElem?_toList]; exact hi
  refine anyR_first hF (fun j o hj c hc => ?_) hi' (Region.noSelect_spec hs) hQ fuel listed a w (Region.free_spec hi' hf) (by simpa using hr) ⟨hw, hy⟩ hS h
  have := List.all_eq_true.1 hnd o (List.mem_of_getElem? (by rw [Array.getElem?_toList]; exact hj))
  rw [hc] at this
  cases this
theorem rr_last {i : Nat} {oi : Oper} {fuel : Nat} {listed l : Array Bool} {a : Act} {w : World} (hr : Region.ready md ops listed = [i]) (hi : ops.toList[i]? = some oi) (hl : listed.setIfInBounds i true = l)
    (hw : Region.wanted oi (yielded ops a.tmps) = true) (h : ∀ K' : Act → World → Prop, Shut (∀ a w, S w → (S w → anyR F n P md ops Q S fuel l a w) → K' a w) → Oper.wpIn F n P oi a w K' Q) : anyR F n P md ops Q S (fuel + 1) listed a w := by
  subst hl
  have hi' : ops[i]? = some oi := by rw [← Array.getElem?_toList]; exact hi
  refine ⟨fun h0 => absurd (hr ▸ h0) (by simp), fun j hj => ?_⟩
  rw [hr] at hj
  obtain rfl : j = i := by simpa using hj
  unfold wpOpIn
  simp only [hi', hw, if_true]
  exact h _ (fun a w hS hW => ⟨hS, hW hS⟩)
theorem rr_done {listed : Array Bool} {a : Act} {w : World} (hr : Region.ready md ops listed = []) (h : Q .normal a w) : ∀ fuel, anyR F n P md ops Q S fuel listed a w
  | 0 => ⟨hr, h⟩
  | _ + 1 => ⟨fun _ => h, by rw [hr]; simp⟩
end
end Go.Proofs.YtnhnphifhkkboaaDoor
namespace Go.Proofs.YtnhnphifhkkboaaDoor
open Go
section
variable {F : Fence} {n : Nat} {P : Program} {ops : Array Oper} {Q : Exit → Act → World → Prop} {md : Region.Mode} {S : World → Prop} {z : Nat}
/-- Whatever comes up, in worlds of the kind S as long as z has not come up. -/
def anyZ (F : Fence) (n : Nat) (P : Program) (md : Region.Mode) (ops : Array Oper) (Q : Exit → Act → World → Prop) (S : World → Prop) (z : Nat) : Nat → Array Bool → Act → World → Prop
  | 0, l, a, w => Region.ready md ops l = [] ∧ Q .normal a w
  | k + 1, l, a, w => (Region.ready md ops l = [] → Q .normal a w) ∧ ∀ i ∈ Region.ready md ops l, wpOpIn F n P ops Q i (fun a' w' => ((l.setIfInBounds i true).getD z true = false → S w') ∧ anyZ F n P md ops Q S z k (l.setIfInBounds i true) a' w') a w
theorem anyZ_sound : ∀ (k : Nat) (l : Array Bool) (a : Act) (w : World), anyZ F n P md ops Q S z k l a w → wpAnyIn F n P md ops Q k l a w
  | 0, _, _, _, h => h
  | k + 1, _, _, _, h => ⟨h.1, fun i hi => wpOpIn_mono (fun a' w' x => anyZ_sound k _ a' w' x.2) (h.2 i hi)⟩
theorem not_ready {l : Array Bool} {i z : Nat} (hun : l.getD i true = false) (hz : (ops.toList[z]?.any fun o => o.after.any fun e => Region.binds md e && e.on == i) = true) : z ∉ Region.ready md ops l := fun hr => by
  obtain ⟨_, oj, hoj, hall⟩ := mem_ready.1 hr
  rw [Array.getElem?_toList, hoj] at hz
  simp only [Option.any_some, Array.any_eq_true, Bool.and_eq_true, beq_iff_eq] at hz
  obtain ⟨m, hm, hb, he⟩ := hz
  have x1 := hall oj.after[m] (Array.getElem_mem hm) hb
  rw [he] at x1
  rcases Nat.lt_or_ge i l.size with y | y
  · simp [y] at x1 hun
    rw [hun] at x1; cases x1
  · simp [Array.getElem?_eq_none y] at hun
theorem anyZ_first {i : Nat} {oi : Oper} {v : Value} (hF : ∀ f, F.fn f) (hnd : ∀ (j : Nat) (o : Oper), ops[j]? = some o → ∀ c : Call, o.op ≠ Op.defer c) (hi : ops[i]? = some oi) (hsel : ∀ (j : Nat) (o : Oper) cs b, ops[j]? = some o → o.op ≠ .select cs b)
    (hQ : ∀ c a w, Q (.panic c) (a.put oi.dst v) w → Q (.panic c) a w) (hiz : i ≠ z) (hz : (ops.toList[z]?.any fun o => o.after.any fun e => Region.binds md e && e.on == i) = true) : ∀ (k : Nat) (l : Array Bool) (a : Act) (w : World),
      (∀ j oj, ops[j]? = some oj → j ≠ i → l.getD j true = false → (∀ e ∈ oj.after, Region.binds md e = true → e.on ≠ i) → oi.apart ops oj = true) →
      i ∈ Region.ready md ops l → l.getD z true = false → YR P ops S oi v a → S w → anyZ F n P md ops Q S z k (l.setIfInBounds i true) (a.put oi.dst v) w → anyZ F n P md ops Q S z (k + 1) l a w := by
  intro k
  induction k with
  | zero =>
    intro l a w _ hr hzl y hS H
    refine ⟨fun h => absurd (h ▸ hr) (by simp), fun j hj => ?_⟩
    by_cases e : j = i
    · rw [e]; exact y.run hF (hnd i oi hi) hi hS ⟨fun _ => hS, H⟩
    · exact absurd (H.1 ▸ ready_mono hj e) (by simp)
  | succ k ih =>
    intro l a w hfree hr hzl y hS H
    refine ⟨fun h => absurd (h ▸ hr) (by simp), fun j hj => ?_⟩
    by_cases e : j = i
    · rw [e]; exact y.run hF (hnd i oi hi) hi hS ⟨fun _ => hS, H⟩
    · have hjz : j ≠ z := fun q => not_ready (mem_ready.1 hr).1 hz (q ▸ hj)
      have g1 : (l.setIfInBounds j true).getD z true = false := by rw [getD_set_ne true hjz]; exact hzl
      have g2 : ((l.setIfInBounds i true).setIfInBounds j true).getD z true = false := by rw [getD_set_ne true hjz, getD_set_ne true hiz]; exact hzl
      obtain ⟨hun, oj, hoj, hall⟩ := mem_ready.1 hj
      have hno : ∀ e ∈ oj.after, Region.binds md e = true → e.on ≠ i := fun e he hb q => by
        have x1 := hall e he hb
        have x0 := (mem_ready.1 hr).1
        rw [q] at x1
        rcases Nat.lt_or_ge i l.size with z | z
        · simp [z] at x0 x1; rw [x0] at x1; cases x1
        · simp [Array.getElem?_eq_none z] at x1
      refine wpOpIn_mono (fun a' w' q => ⟨fun _ => q.2.1 g2, ih (l.setIfInBounds j true) a' w' (fun m om hm hmi hu hn => hfree m om hm hmi ?_ hn) (ready_mono hr (Ne.symm e)) g1 q.1 (q.2.1 g2) (by rw [Array.setIfInBounds_comm _ _ e]; exact q.2.2)⟩)
        (YR.apart hF (hnd j oj hoj) hoj (hfree j oj hoj e hun hno) (fun cs b => hsel i oi cs b hi) (fun cs b => hsel j oj cs b hoj) hQ y (H.2 j (ready_mono hj e)))
      by_cases z : j = m
      · rw [← z]; exact hun
      · rwa [getD_set_ne true z] at hu
theorem rz_begin {id : Nat} {a : Act} {w : World} (z N : Nat) (l : Array Bool) (hn : ops.size = N) (hl : Array.replicate N false = l) (hm : P.follows .mixedOrders = true) (hS : S w.drew)
    (h : S w.drew → anyZ F n P .any ops Q S z N l a w.drew) : (Code.region id ops true).wpIn F n P Q a w :=
  wpIn_region_any hm (by rw [hn, hl]; exact anyZ_sound _ _ _ _ (h hS))
theorem rz_take {i : Nat} {d : Option Tmp} {oi : Oper} {v : Value} {fuel : Nat} {listed l : Array Bool} {a : Act} {w : World} (hF : ∀ f, F.fn f) (hnd : (ops.toList.all fun o => match o.op with | .defer _ => false | _ => true) = true) (hi : ops.toList[i]? = some oi) (hd : oi.dst = d) (hl : listed.setIfInBounds i true = l)
    (hs : Region.noSelect ops = true) (hf : Region.free md ops listed i = true) (hr : (Region.ready md ops listed).contains i = true) (hiz : (i != z) = true) (hz : (ops.toList[z]?.any fun o => o.after.any fun e => Region.binds md e && e.on == i) = true) (hzl : listed.getD z true = false)
    (hQ : ∀ c a w, Q (.panic c) (a.put d v) w → Q (.panic c) a w) (hw : Region.wanted oi (yielded ops a.tmps) = true) (hy : ∀ w, S w → (execOp a.eval oi).run P w = .ok (.value v) w) (hS : S w)
    (h : anyZ F n P md ops Q S z fuel l (a.put d v) w) : anyZ F n P md ops Q S z (fuel + 1) listed a w := by
  subst hd hl
  have hi' : ops[i]? = some oi := by rw [← Array.getElem?_toList]; exact hi
  refine anyZ_first hF (fun j o hj c hc => ?_) hi' (Region.noSelect_spec hs) hQ (by simpa using hiz) hz fuel listed a w (Region.free_spec hi' hf) (by simpa using hr) hzl ⟨hw, hy⟩ hS h
  have := List.all_eq_true.1 hnd o (List.mem_of_getElem? (by rw [Array.getElem?_toList]; exact hj))
  rw [hc] at this
  cases this
theorem rz_last {i : Nat} {oi : Oper} {fuel : Nat} {listed l : Array Bool} {a : Act} {w : World} (hr : Region.ready md ops listed = [i]) (hi : ops.toList[i]? = some oi) (hl : listed.setIfInBounds i true = l)
    (hw : Region.wanted oi (yielded ops a.tmps) = true) (h : ∀ K' : Act → World → Prop, Shut (∀ a w, (l.getD z true = false → S w) → ((l.getD z true = false → S w) → anyZ F n P md ops Q S z fuel l a w) → K' a w) → Oper.wpIn F n P oi a w K' Q) : anyZ F n P md ops Q S z (fuel + 1) listed a w := by
  subst hl
  have hi' : ops[i]? = some oi := by rw [← Array.getElem?_toList]; exact hi
  refine ⟨fun h0 => absurd (hr ▸ h0) (by simp), fun j hj => ?_⟩
  rw [hr] at hj
  obtain rfl : j = i := by simpa using hj
  unfold wpOpIn
  simp only [hi', hw, if_true]
  exact h _ (fun a w hS hW => ⟨hS, hW hS⟩)
theorem rz_done {listed : Array Bool} {a : Act} {w : World} (hr : Region.ready md ops listed = []) (h : Q .normal a w) : ∀ fuel, anyZ F n P md ops Q S z fuel listed a w
  | 0 => ⟨hr, h⟩
  | _ + 1 => ⟨fun _ => h, by rw [hr]; simp⟩
end
end Go.Proofs.YtnhnphifhkkboaaDoor
