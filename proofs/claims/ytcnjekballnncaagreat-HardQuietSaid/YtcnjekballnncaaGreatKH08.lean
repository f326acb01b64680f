/-
  Texts of these proofs, one behind the other: Lin3, G14.
-/
import Derived.Test.YtcnjekballnncaaGreatKH07
import Derived.FnLit
import Derived.WalkMore
import Derived.Deep.LoopGhost
import Derived.RegionTactic
import Derived.Deep.AppendLies
import Derived.Deep.RegionHeld3
import Derived.Laws.Rows
namespace Go.Proofs.YtcnjekballnncaaGreat
open Go.RowKit
set_option linter.unusedVariables false
set_option linter.unusedSimpArgs false
set_option maxRecDepth 100000
theorem ERow.cells' {w w' : World} {g : Nat} {A : Option Addr} {n : Nat} {es : Nat → Iib} (R : ERow w A n es) (hg : w.heap.size = g) (hB : Below g w w') (k : Nat) (hk : k < n) : ∃ ad : Addr, A = some ad ∧ ad.block < w'.heap.size ∧ w'.cell? (ad.add (k * 3)) = some (.int .i64 (es k).a) ∧
    w'.cell? ⟨(ad.add (k * 3)).block, (ad.add (k * 3)).off + 1, none⟩ = some (.int .u8 (es k).b) ∧ w'.cell? ⟨(ad.add (k * 3)).block, (ad.add (k * 3)).off + 2, none⟩ = some (.bool (es k).c) := by
  subst hg
  exact ERow.cells (FRow.keep R hB) k hk
theorem edge_info : (Tryz.prog.info? 129).map (fun i => (i.zero, i.size, i.bytes)) = some (some (.agg #[.int .i64 0, .int .u8 0, .bool false]), 3, 16) := by kernel_rfl
def EClR (n : Nat) (es : Nat → Iib) (w : World) (e : Ending) (w' : World) : Prop :=
  ∃ A cap, e = .returned (.slice A n cap) ∧ n ≤ cap ∧ cap ≤ maxLen ∧ ERow w' A n es ∧ Typed w' A 129 ∧ (A = none → n = 0 ∧ cap = 0) ∧ Below w.heap.size w w'
theorem eclone_any {w : World} {A : Option Addr} {n c : Nat} {es : Nat → Iib} (hA : A = none → n = 0 ∧ c = 0) (R : ERow w A n es) (hn : n ≤ 1000) :
    Calls Tryz.prog 78 #[.slice A n c] w (EClR n es w) := by
  cases A with
  | none =>
    obtain ⟨rfl, rfl⟩ := hA rfl
    have hnil := fun W => Lib.run_eql_slice_nil (P := Tryz.prog) W 25 129 none 0 0 0 0 Tryz.underlying25
    clear R hA
    go_enter Tryz.func78, Tryz.ntmps78
    go_wp2
    go_ret
    exact ⟨none, 0, rfl, Nat.le_refl _, by unfold maxLen; omega, fun i hi => absurd hi (by omega), Typed.none, fun _ => ⟨rfl, rfl⟩, Below.refl _ _⟩
  | some ad =>
    have hnil := fun W => Lib.run_eql_slice_nil (P := Tryz.prog) W 25 129 (some ad) n c 0 0 Tryz.underlying25
    obtain ⟨A, cap, w', hrun, h1, h2, h3, h4, h5, h6⟩ := clone_frow (P := Tryz.prog) (ty := 25) (c := c) Tryz.underlying25 edge_info rfl (by omega)
      (fun i j _ hj => by rcases j with _ | _ | _ | j <;> first | rfl | omega) (by omega) (by unfold maxLen; omega) R
    have H3 := Lib.hid h3
    have H5 := Lib.hid h5
    clear h3 h5 R hA
    go_enter Tryz.func78, Tryz.ntmps78
    go_wp2_with (at_builtin; refine wpList_append_run rfl (.tmp 5) (.tmp 6) 25 rfl rfl rfl hrun ?_)
    go_ret
    exact ⟨A, cap, rfl, h1, h2, H3.out, h4, H5.out, h6⟩
end Go.Proofs.YtcnjekballnncaaGreat
namespace Go.Proofs.YtcnjekballnncaaGreat
open Go
section
variable {P : Program} {ops : Array Oper} {Q : Exit → Act → World → Prop} {md : Region.Mode} {S : World → Prop}
theorem rg_at {i : Nat} {oi : Oper} (h : ops.toList[i]? = some oi) : ops[i]? = some oi := by rw [← Array.getElem?_toList]; exact h
theorem rg_begin {id : Nat} {a : Act} {w : World} (n : Nat) (l : Array Bool) (hn : ops.size = n) (hl : Array.replicate n false = l) (hm : P.follows .mixedOrders = true) (hS : S w.drew)
    (h : S w.drew → wpAnyH P .any ops Q S n l a w.drew) : (Code.region id ops true).wp P Q a w :=
  wp_region_held_drew hm hS (by rw [hn, hl]; exact h)
theorem rg_take {i : Nat} {d : Option Tmp} {oi : Oper} {v : Value} {fuel : Nat} {listed l : Array Bool} {a : Act} {w : World} (hi : ops.toList[i]? = some oi) (hd : oi.dst = d) (hl : listed.setIfInBounds i true = l)
    (hs : Region.noSelect ops = true) (hf : Region.free md ops listed i = true) (hr : (Region.ready md ops listed).contains i = true)
    (hQ : ∀ c a w, Q (.panic c) (a.put d v) w → Q (.panic c) a w) (hw : Region.wanted oi (yielded ops a.tmps) = true) (hy : ∀ w, S w → (execOp a.eval oi).run P w = .ok (.value v) w) (hS : S w)
    (h : wpAnyH P md ops Q S fuel l (a.put d v) w) : wpAnyH P md ops Q S (fuel + 1) listed a w := by
  subst hd hl
  exact wpAnyH_take (rg_at hi) hs hf hr hQ (Or.inl ⟨hw, hy⟩) hS h
theorem rg_skip {i : Nat} {d : Option Tmp} {oi : Oper} {fuel : Nat} {listed l : Array Bool} {a : Act} {w : World} (hi : ops.toList[i]? = some oi) (hd : oi.dst = d) (hl : listed.setIfInBounds i true = l)
    (hs : Region.noSelect ops = true) (hf : Region.free md ops listed i = true) (hr : (Region.ready md ops listed).contains i = true)
    (hQ : ∀ c a w, Q (.panic c) (a.put d undef) w → Q (.panic c) a w) (hw : Region.wanted oi (yielded ops a.tmps) = false) (hS : S w)
    (h : wpAnyH P md ops Q S fuel l (a.put d undef) w) : wpAnyH P md ops Q S (fuel + 1) listed a w := by
  subst hd hl
  exact wpAnyH_take (rg_at hi) hs hf hr hQ (Or.inr ⟨hw, rfl⟩) hS h
theorem rg_next {i : Nat} {oi : Oper} {fuel : Nat} {listed l : Array Bool} {a : Act} {w : World} (hr : Region.ready md ops listed = [i]) (hi : ops.toList[i]? = some oi) (hl : listed.setIfInBounds i true = l)
    (hw : Region.wanted oi (yielded ops a.tmps) = true) (h : ∀ K' : Act → World → Prop, Shut (∀ a w, S w → (S w → wpAnyH P md ops Q S fuel l a w) → K' a w) → Oper.wp P oi a w K' Q) :
    wpAnyH P md ops Q S (fuel + 1) listed a w := by
  subst hl
  refine wpAnyH_ready hr (by simp) (AllReadyH.cons (rg_at hi) (fun K hK => ?_) AllReadyH.nil)
  rw [if_pos hw]
  exact h K hK
end
theorem exec_load_row {P : Program} {o : Oper} {ρ : Operand → Value} {w : World} (ty : TypeId) (x : Operand) (ho : o.op = .load ty x) (g : Nat) (hx : ρ x = .pointer (some ⟨g, 0, none⟩)) (t : TypeId) (cs : Array Value) (fr : Nat × Nat) (d : TypeDesc)
    (hg : w.heap[g]? = some (.cells cs t fr)) (hu : P.underlying ty = some d) (hd : (match d with | .struct _ | .array _ _ => true | _ => false) = true) (hi : (P.info? ty).map (·.size) = some cs.size) : (execOp ρ o).run P w = .ok (.value (.agg cs)) w := by
  unfold execOp
  simp only [ho, hx, Instr.loadAt, Instr.sureAddr, Sem.run_bind, Sem.run_pure, Result.andThen_ok, run_loadVar_row w g t ty cs fr d hg hu hd hi]
end Go.Proofs.YtcnjekballnncaaGreat
