/-
  Texts of these proofs, one behind the other: Rpg4.
-/
import Derived.Test.YtaamfcbpelbboaaDoorKM29
import Derived.Test.YtaamfcbpelbboaaDoorKM24
namespace Go.Proofs.YtaamfcbpelbboaaDoor
open Go.RowKit
set_option linter.unusedVariables false
set_option linter.unusedSimpArgs false
set_option maxRecDepth 100000
/-- Both, made since W. -/
def MI (W : World) (g : Nat) (ns : Nat → Nat) (r : Nat) (rs ms : Nat → Nat) (s u : Sg) (w : World) : Prop :=
  PG w g ns s ∧ RG w r rs ms u ∧ Below W.heap.size W w ∧ (W.heap.size ≤ g ∧ ∀ i, i < 6 → W.heap.size ≤ ns i) ∧ (W.heap.size ≤ r ∧ ∀ i, i < 6 → W.heap.size ≤ rs i ∧ W.heap.size ≤ ms i)
section
variable {W w w' : World} {g r : Nat} {ns rs ms : Nat → Nat} {s u t : Sg}
theorem MI.below (h : MI W g ns r rs ms s u w) (b : Below w.heap.size w w') : MI W g ns r rs ms s u w' := ⟨h.1.below b, h.2.1.below b, Below.trans h.2.2.1 (b.mono h.2.2.1.size), h.2.2.2⟩
theorem MI.wroteP (h : MI W g ns r rs ms s u w) (p : PG w' g ns t) (k : Kp (pgL g ns) w w') : MI W g ns r rs ms t u w' := by
  obtain ⟨h1, h2, h3, h4, h5⟩ := h
  refine ⟨p, h2.kp k ?_ (fun i hi => ⟨?_, ?_⟩), k.onto h3 h3.size (fun x hx => ?_), h4, h5⟩
  · intro hx
    rcases pgL_all g ns r hx with e | ⟨j, hj, e⟩
    · exact Blk.ne_ h2.1 h1.1 (by decide) e
    · exact Blk.ne_ h2.1 (h1.2.1 j hj).1 (by decide) e
  · intro hx
    rcases pgL_all g ns _ hx with e | ⟨j, hj, e⟩
    · exact Blk.ne_ (h2.2.1 i hi).1 h1.1 (by decide) e
    · exact Blk.ne_ (h2.2.1 i hi).1 (h1.2.1 j hj).1 (by decide) e
  · intro hx
    rcases pgL_all g ns _ hx with e | ⟨j, hj, e⟩
    · exact Blk.ne_ (h2.2.1 i hi).2.1.1 h1.1 (by decide) e
    · exact Blk.ne_ (h2.2.1 i hi).2.1.1 (h1.2.1 j hj).1 (by decide) e
  · rcases pgL_all g ns x hx with e | ⟨i, hi, e⟩
    · rw [e]; exact h4.1
    · rw [e]; exact h4.2 i hi
theorem MI.wroteR (h : MI W g ns r rs ms s u w) (p : RG w' r rs ms t) (k : Kp (rgL r rs ms) w w') : MI W g ns r rs ms s t w' := by
  obtain ⟨h1, h2, h3, h4, h5⟩ := h
  refine ⟨h1.kp k ?_ (fun i hi => ?_), p, k.onto h3 h3.size (fun x hx => ?_), h4, h5⟩
  · intro hx
    rcases rgL_all r rs ms g hx with e | ⟨j, hj, e | e⟩
    · exact Blk.ne_ h1.1 h2.1 (by decide) e
    · exact Blk.ne_ h1.1 (h2.2.1 j hj).1 (by decide) e
    · exact Blk.ne_ h1.1 (h2.2.1 j hj).2.1.1 (by decide) e
  · intro hx
    rcases rgL_all r rs ms _ hx with e | ⟨j, hj, e | e⟩
    · exact Blk.ne_ (h1.2.1 i hi).1 h2.1 (by decide) e
    · exact Blk.ne_ (h1.2.1 i hi).1 (h2.2.1 j hj).1 (by decide) e
    · exact Blk.ne_ (h1.2.1 i hi).1 (h2.2.1 j hj).2.1.1 (by decide) e
  · rcases rgL_all r rs ms x hx with e | ⟨i, hi, e | e⟩
    · rw [e]; exact h5.1
    · rw [e]; exact (h5.2 i hi).1
    · rw [e]; exact (h5.2 i hi).2
end
theorem hrd_bd {F : Vc → Int} (h : ∀ v, -126976 ≤ F v ∧ F v ≤ 126976) (v : Vc) : -126976 ≤ hrd F v ∧ hrd F v ≤ 126976 := by
  unfold hrd; split
  · decide
  · exact h v
/-- What those make of one's first k that are heard. -/
def ofLk (v : Nat → Vc) (m : Int) (k : Nat) : Int := sumTo (fun i => hrd (fun x => x.left m) (v i)) k
def ofRk (v : Nat → Vc) (m : Int) (k : Nat) : Int := sumTo (fun i => hrd (fun x => x.right m) (v i)) k
theorem ofLk_bd (v : Nat → Vc) (m : Int) (k : Nat) (hk : k ≤ 6) : -761856 ≤ ofLk v m k ∧ ofLk v m k ≤ 761856 := by
  have := sum_bd (f := fun i => hrd (fun x => x.left m) (v i)) (n := k) fun i _ => hrd_bd (fun x => side_bd _ _ _ _) _
  unfold ofLk; omega
theorem ofRk_bd (v : Nat → Vc) (m : Int) (k : Nat) (hk : k ≤ 6) : -761856 ≤ ofRk v m k ∧ ofRk v m k ≤ 761856 := by
  have := sum_bd (f := fun i => hrd (fun x => x.right m) (v i)) (n := k) fun i _ => hrd_bd (fun x => side_bd _ _ _ _) _
  unfold ofRk; omega
theorem ofk_un {v : Nat → Vc} {k : Nat} (h : (v k).un = true) (m : Int) : ofLk v m (k + 1) = ofLk v m k ∧ ofRk v m (k + 1) = ofRk v m k := by
  unfold ofLk ofRk hrd
  simp only [sumTo, h, if_true, Int.add_zero, and_self]
theorem ofk_hd {v : Nat → Vc} {k : Nat} (h : (v k).un = false) (m : Int) : ofLk v m (k + 1) = ofLk v m k + (v k).left m ∧ ofRk v m (k + 1) = ofRk v m k + (v k).right m := by
  unfold ofLk ofRk
  simp only [sumTo]
  unfold hrd
  rw [h]
  exact ⟨rfl, rfl⟩
end Go.Proofs.YtaamfcbpelbboaaDoor
