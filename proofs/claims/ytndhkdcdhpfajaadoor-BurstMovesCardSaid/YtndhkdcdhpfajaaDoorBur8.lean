/-
  Blocks on their way: the one table when the call begins; what both blocks keep; a row of three numbers.
-/
import Derived.Test.YtndhkdcdhpfajaaDoorRows
import Derived.Test.YtndhkdcdhpfajaaDoorBur7
import Derived.Test.YtndhkdcdhpfajaaDoorG27
import Derived.ProofKit
import Derived.LaidMore
import Derived.OpenShut
import Derived.Stop.Joined
import Derived.Lay
namespace Go.Proofs.YtndhkdcdhpfajaaDoor
open Go.ChangeShapes Go.WideShapes Go.ChangeAt Go.RowKit
set_option linter.unusedVariables false
set_option linter.unusedSimpArgs false
set_option maxRecDepth 100000
theorem tab8_of {P : Program} {w : World} {nm : String} {g n fuel : Nat} {t e : TypeId} {cs : Array Value} {f : Nat → Int} {p : List MemPlace} (hg : P.globalNamed nm = some g) (ht : P.underlying t = some (.array n e)) (he : P.underlying e = some (.int .u8)) (ce : P.cellsOf e = 1) (hn : 0 < n)
    (hv : w.var? P nm = some cs) (hd : DataW.trod (fun _ => ()) P w 0 (fun _ => true) false fuel t cs.toList = some (.agg ((List.range n).map fun i => .lit (.int .u8 (f i))), p)) : g < w.heap.size ∧ ∀ k, k < n → w.cell? ⟨g, k, none⟩ = some (.int .u8 (f k)) := by
  obtain ⟨xs, m, rfl, hx, hl, hxn, hel⟩ := DataW.trod_array ht hd
  have hc : ∀ k, k < n → w.cell? ⟨g, k, none⟩ = some (.int .u8 (f k)) := fun k hk => by
    have h1 := hel k hk
    have hxk : xs[k]? = some (xs[k]'(by omega)) := List.getElem?_eq_getElem (by omega)
    rw [hxk, ce, Nat.mul_one] at h1
    obtain ⟨z, e1, e2, _⟩ := DataW.trod_int he h1
    have e3 : (xs[k]'(by omega)).1 = .lit (.int .u8 (f k)) := by
      have h2 : (xs.map (·.1))[k]? = some (xs[k]'(by omega)).1 := by rw [List.getElem?_map, hxk]; rfl
      have h3 : (xs.map (·.1)) = (List.range n).map fun i => .lit (.int .u8 (f i)) := by
        simp only [Prod.mk.injEq, DataW.agg.injEq] at hx
        exact hx.1.symm
      rw [h3] at h2
      simpa [hk] using h2.symm
    rw [e2] at e3
    simp only [DataW.lit.injEq, Lit.int.injEq, true_and] at e3
    rw [e3] at e1
    have := World.var?_cell hg hv k
    rw [this]
    have h4 : cs.toList[k]? = some (.int .u8 (f k)) := by
      have h5 : (cs.toList.drop k)[0]? = some (.int .u8 (f k)) := by
        have : ((cs.toList.drop k).take 1)[0]? = some (.int .u8 (f k)) := by rw [e1]; rfl
        simpa using this
      simpa using h5
    simpa using h4
  exact ⟨cell_lt (hc 0 hn), hc⟩
theorem gKnd : Tryd.prog.globalNamed "gannet/burst.kinds" = some 0 := by kernel_rfl
theorem tKnd : (Tryd.prog.globals[0]?).map (·.type) = some 54 := by kernel_rfl
abbrev laid2 : List (String × DataW Unit) := [("gannet/burst.kinds", Rows.laid_gannet_burst_kinds)]
theorem of_laid {W : World} (h : laidMet Tryd.prog laid2 W) : BKd W := by
  obtain ⟨ps, ⟨g0, t0, cs0, f0, p0, q0, hg0, ht0, hv0, hd0, _, _⟩, _, _⟩ := h
  obtain rfl := Option.some.inj (gKnd.symm.trans hg0)
  obtain rfl := Option.some.inj (tKnd.symm.trans ht0)
  have c3 : Tryd.prog.cellsOf 5 = 1 := by kernel_rfl
  exact tab8_of (f := fun k => if k = 1 then 3 else if k = 4 then 4 else 2) gKnd Tryd.underlying54 Tryd.underlying5 c3 (by decide) hv0 hd0
abbrev Tabs (w : World) : Prop := BKd w
theorem Bu.go_k (s : Bu) (v : Int) : (s.go v).k = s.k := by unfold Bu.go; split; rfl; split; rfl; split <;> rfl
theorem Bu.go_f (s : Bu) (v : Int) : (s.go v).f = s.f := by unfold Bu.go; split; rfl; split; rfl; split <;> rfl
theorem Bu.go_t (s : Bu) (v : Int) : (s.go v).t = s.t := by unfold Bu.go; split; rfl; split; rfl; split <;> rfl
theorem Bu.go_b (s : Bu) (v : Int) : (s.go v).b = s.b := by unfold Bu.go; split; rfl; split; rfl; split <;> rfl
/-- The same block, further on. -/
def Bu.like (s : Bu) (k : Nat) (f t : Int) (b : Nat) : Prop := s.k = k ∧ s.f = f ∧ s.t = t ∧ s.b = b
theorem Bu.like_go {s : Bu} {k b : Nat} {f t : Int} (h : s.like k f t b) (v : Int) : (s.go v).like k f t b := ⟨(s.go_k v).trans h.1, (s.go_f v).trans h.2.1, (s.go_t v).trans h.2.2.1, (s.go_b v).trans h.2.2.2⟩
theorem BB.stepped {w w1 w2 : World} {g r : Nat} {s : Bu} {l v : Int} (h : BB w g r s l) (v0 : 0 ≤ v) (v1 : v ≤ 255) (hp : BuB w1 g (s.go v)) (k1 : Kp [g] w w1) (hq : RB w2 r (s.go v) l) (k2 : Kp [r] w1 w2) (hG : 0 ∉ [g, r]) : BB w2 g r (s.go v) l ∧ Kp [g, r] w w2 := by
  have ne := h.ne
  have k3 : Kp [g, r] w w2 := (k1.mono (M := [g, r]) (by simp)).trans (k2.mono (M := [g, r]) (by simp)) (fun x hx => .inl hx)
  exact ⟨⟨hp.kp k2 (by simpa using ne), hq, h.t.kp k3 hG, Bu.go_ok h.o v v0 v1, h.l0, h.l1, by rw [Bu.go_b]; exact h.c⟩, k3⟩
theorem BB.kp {w w' : World} {g r : Nat} {s : Bu} {l : Int} {L : List Nat} (h : BB w g r s l) (k : Kp L w w') (h1 : g ∉ L) (h2 : r ∉ L) (h3 : 0 ∉ L) : BB w' g r s l := ⟨h.p.kp k h1, h.q.kp k h2, h.t.kp k h3, h.o, h.l0, h.l1, h.c⟩
theorem BB.like {w w' : World} {g r : Nat} {s : Bu} {l : Int} (h : BB w g r s l) (e : w'.heap = w.heap) : BB w' g r s l := by
  refine ⟨?_, ?_, ?_, h.o, h.l0, h.l1, h.c⟩
  · show w'.heap[g]? = _
    rw [e]; exact h.p
  · show w'.heap[r]? = _
    rw [e]; exact h.q
  · refine ⟨by rw [e]; exact h.t.1, fun k hk => ?_⟩
    rw [← h.t.2 k hk]
    unfold World.cell?
    rw [e]
end Go.Proofs.YtndhkdcdhpfajaaDoor
