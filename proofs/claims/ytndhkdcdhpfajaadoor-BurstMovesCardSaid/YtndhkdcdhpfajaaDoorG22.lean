/-
  A region in which several operations are ready at once: one step for each. Over any program.
-/
import Derived.Test.YtndhkdcdhpfajaaDoorG14
namespace Go.Proofs.YtndhkdcdhpfajaaDoor
open Go
section
variable {P : Program} {ops : Array Oper} {Q : Exit → Act → World → Prop} {md : Region.Mode} {S : World → Prop}
/-- What is owed where an operation that is ready is carried out next. -/
def RgStep (P : Program) (md : Region.Mode) (ops : Array Oper) (Q : Exit → Act → World → Prop) (S : World → Prop) (fuel : Nat) (l : Array Bool) (a : Act) (w : World) (oi : Oper) : Prop :=
  ∀ K' : Act → World → Prop, Shut (∀ a w, S w → (S w → wpAnyH P md ops Q S fuel l a w) → K' a w) → Oper.wp P oi a w K' Q
theorem rg_step {i : Nat} {oi : Oper} {fuel : Nat} {listed l : Array Bool} {a : Act} {w : World} {rs : List Nat} (hi : ops.toList[i]? = some oi) (hl : listed.setIfInBounds i true = l)
    (hw : Region.wanted oi (yielded ops a.tmps) = true) (h : RgStep P md ops Q S fuel l a w oi) (hs : AllReadyH P md ops Q S fuel listed a w rs) : AllReadyH P md ops Q S fuel listed a w (i :: rs) := by
  subst hl
  refine AllReadyH.cons (rg_at hi) (fun K hK => ?_) hs
  rw [if_pos hw]
  exact h K hK
theorem rg_of {rs : List Nat} {fuel : Nat} {listed : Array Bool} {a : Act} {w : World} (hr : Region.ready md ops listed = rs) (hne : rs.isEmpty = false)
    (h : AllReadyH P md ops Q S fuel listed a w rs) : wpAnyH P md ops Q S (fuel + 1) listed a w := wpAnyH_ready hr (by rintro rfl; cases hne) h
/-- More is held from here on. -/
theorem rg_more {S' : World → Prop} (h : ∀ w, S' w → S w) : ∀ (fuel : Nat) (listed : Array Bool) (a : Act) (w : World), wpAnyH P md ops Q S' fuel listed a w → wpAnyH P md ops Q S fuel listed a w
  | 0, _, _, _, H => H
  | fuel + 1, _, _, _, H => ⟨H.1, fun i hi => wpOp_mono (fun a' w' h' => ⟨h _ h'.1, rg_more h fuel _ a' w' h'.2⟩) (H.2 i hi)⟩
end
end Go.Proofs.YtndhkdcdhpfajaaDoor
