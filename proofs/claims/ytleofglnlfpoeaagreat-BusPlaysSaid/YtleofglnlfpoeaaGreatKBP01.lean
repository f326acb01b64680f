/-
  Texts of these proofs, one behind the other: G3, G1, G4.
-/
import Derived.WalkKit
import Derived.ProofKit
import Derived.OpenShut
import Derived.Carry
import Derived.Handy
import Derived.WalkSpells
import Derived.WalkLawsBesides
import Derived.Below
import Derived.Laws.OwnMore
import Derived.Deep.Draws
import Derived.Laws.Rows
namespace Go.Proofs.YtleofglnlfpoeaaGreat
open Go.ChangeShapes Go.WideShapes Go.ChangeAt Go.RowKit
/-- What was there ahead of the call reads behind it as it did, argument by argument. -/
theorem trodAll_below {H : Type} {enc : TypeId × Value → H} {P : Program} (hl : laidOutB P = true) {W W' : World} (hb : Below W.heap.size W W') :
    ∀ {ts : List TypeId} {vs : List Value} {ds : List (DataW H)} {ps : List MemPlace}, ts.all (fun t => P.readableRec t && decide (t < P.types.size)) = true →
      DataW.TrodAll enc P W 0 (fun _ => true) true ts vs ds ps → (∀ x ∈ ps, x.block < W.heap.size) →
      DataW.TrodAll enc P W' 0 (fun b => decide (b < W.heap.size)) true ts vs ds ps
  | [], vs, ds, ps, _, h, _ => by
    obtain ⟨rfl, rfl, rfl⟩ := trodAll_nil h
    exact trodAll_mk0
  | t :: ts, vs, ds, ps, ha, h, hlt => by
    obtain ⟨v, vs', d, ds', p, q, rfl, rfl, rfl, h1, h2⟩ := trodAll_cons h
    simp only [List.all_cons, Bool.and_eq_true, decide_eq_true_eq] at ha
    exact trodAll_cons_mk (Below.trod hl ha.1.1 ha.1.2 h1 hb fun x hx => hlt x (by simp [hx])) (trodAll_below hl hb ha.2 h2 fun x hx => hlt x (by simp [hx]))
/-- A law: it answers true, and only makes memory. -/
theorem law_post {H : Type} {enc : TypeId × Value → H} {P : Program} {f : Func} {s : ChangeSpec} {apart fresh handsOn : Bool} {W W' : World} {args : Array Value} {ds gs : List (DataW H)} {before : List MemPlace} {bt : TypeId}
    (hres : f.resultTypes = #[bt]) (hbt : P.underlying bt = some .bool) (hl : laidOutB P = true) (hps : f.params.toList.all (fun t => P.readableRec t && decide (t < P.types.size)) = true) (hvars : s.vars = [])
    (hW : DataW.Whole enc P f.params.toList s.vars apart W args.toList ds gs before) (hs : s.fn H (ds ++ gs) = { results := [.lit (.bool true)], args := ds }) (hb : Below W.heap.size W W') :
    s.post enc P f apart fresh handsOn false W args (.bool true) W' := by
  have hW' := hW
  obtain ⟨p, q, hA, hV, rfl, hfz, hnd⟩ := hW
  have hlt : ∀ x ∈ p ++ q, x.block < W.heap.size := fun x hx => by simpa using hW'.lt x hx
  have hV2 := hV
  rw [hvars] at hV2
  obtain ⟨rfl, rfl⟩ := trodVars_none hV2
  refine ⟨ds, [], p ++ [], [], p, [], hW', ?_, ?_, ?_, hb.frame _, fun h => by cases h⟩
  · rw [hs, hres]; exact trodAll_mk1 (shut_bool hbt true)
  · rw [hs]; exact trodAll_below hl hb hps hA fun x hx => hlt x (by simp [hx])
  · rw [hs, hvars]; rfl
theorem asV {P : Program} {f : FuncId} {args : Array Value} {w : World} {v v' : Value} {Q : World → Prop} (h : Calls P f args w fun e w' => e = .returned v ∧ Q w') (e : v = v') : Calls P f args w fun e w' => e = .returned v' ∧ Q w' := e ▸ h
end Go.Proofs.YtleofglnlfpoeaaGreat
namespace Go.Proofs.YtleofglnlfpoeaaGreat
open Go.RowKit

/-- A type whose values are one cell, and no aggregate. -/
def flat (P : Program) (e : TypeId) : Bool :=
  (match P.underlying e with | some (.struct _) => false | some (.array _ _) => false | some _ => true | none => false) && (P.info? e).any (fun i => i.size == 1)

theorem run_index_agg {P : Program} {t e : TypeId} {n : Nat} (ht : P.underlying t = some (.array n e)) (he : flat P e = true) {cs : Array Value} {k : IntKind} {i : Int} {v : Value} (h0 : 0 ≤ i) (h1 : i < n) (hv : cs[i.toNat]? = some v) (w : World) :
    (Instr.index t (.agg cs) (.int k i)).run P w = .ok v w := by
  unfold flat at he
  simp only [Bool.and_eq_true, Option.any_eq_true] at he
  obtain ⟨he, inf, hi, hs⟩ := he
  have hs : inf.size = 1 := by simpa using hs
  cases hu : P.underlying e with
  | none => simp [hu] at he
  | some d =>
    have hz : (typeInfo e).run P w = .ok inf w := by simp [typeInfo, hi]
    cases d <;> simp [hu] at he <;> simp [Instr.index, run_underlying ht, asIntOf, h0, h1, part, isAgg, run_underlying hu, sizeOf, hz, hs, hv]
end Go.Proofs.YtleofglnlfpoeaaGreat
namespace Go.Proofs.YtleofglnlfpoeaaGreat
open Go.RowKit
/-- In block g lie the cells cs, of type t, and nothing else; none is frozen. -/
def Blk (w : World) (g : Nat) (t : TypeId) (cs : Array Value) : Prop := w.heap[g]? = some (Obj.cells cs t (0, 0))
section
variable {w w' : World} {g : Nat} {t : TypeId} {cs : Array Value}
theorem Blk.lt (h : Blk w g t cs) : g < w.heap.size := (Array.getElem?_eq_some_iff.1 h).1
theorem Blk.cell (h : Blk w g t cs) (i : Nat) : w.cell? ⟨g, i, none⟩ = cs[i]? := cell_of_row _ _ _ _ _ _ h
theorem Blk.frozen (h : Blk w g t cs) (i : Nat) : w.frozen? ⟨g, i, none⟩ = false := by
  have h' : w.heap[g]? = some (Obj.cells cs t (0, 0)) := h
  simp only [World.frozen?, h']
  simp
theorem Blk.new (w : World) (t : TypeId) (cs : Array Value) : Blk (w.alloc (.cells cs t)) w.heap.size t cs := heap_alloc_new w _
theorem Blk.drewN (h : Blk w g t cs) (n : Nat) : Blk (w.drewN n) g t cs := h
theorem Blk.alloc (h : Blk w g t cs) (o : Obj) : Blk (w.alloc o) g t cs := by
  show (w.alloc o).heap[g]? = _
  rw [Below.heap_alloc w o g h.lt]; exact h
theorem Blk.set_ (h : Blk w g t cs) (i : Nat) (u : Value) : Blk (w.setCell ⟨g, i, none⟩ u) g t (cs.setIfInBounds i u) := by
  have h' : w.heap[g]? = some (Obj.cells cs t (0, 0)) := h
  show (w.setCell ⟨g, i, none⟩ u).heap[g]? = _
  simp [World.setCell, Array.getElem?_modify, h']
theorem Blk.far (h : Blk w g t cs) {p : Addr} (hp : g ≠ p.block) (u : Value) : Blk (w.setCell p u) g t cs := by
  show (w.setCell p u).heap[g]? = _
  rw [Below.heap_setCell w p u g hp]; exact h
theorem Blk.below {B : Nat} (h : Blk w g t cs) (hb : Below B w w') (hg : g < B) : Blk w' g t cs := by
  show w'.heap[g]? = _
  rw [hb.block g hg]; exact h
theorem Blk.later {w0 : World} (h : Blk w0 g t cs) (hb : Below w.heap.size w w') (he : w.heap = w0.heap) : Blk w' g t cs := by
  show w'.heap[g]? = _
  rw [hb.block g (by rw [he]; exact h.lt), he]; exact h
theorem Blk.grown {row : Option Nat} (h : Blk w g t cs) (hb : w.grownBy w' row) (hg : some g ≠ row) : Blk w' g t cs := by
  show w'.heap[g]? = _
  rw [hb.block g h.lt hg]; exact h
/-- Blocks of two types are two blocks. -/
theorem Blk.ne_ {g' : Nat} {t' : TypeId} {cs' : Array Value} (h : Blk w g t cs) (h' : Blk w g' t' cs') (hne : t ≠ t') : g ≠ g' := fun e => by
  have h1 : w.heap[g]? = some (Obj.cells cs t (0, 0)) := h
  have h2 : w.heap[g]? = some (Obj.cells cs' t' (0, 0)) := by rw [e]; exact h'
  rw [h1] at h2
  simp only [Option.some.injEq, Obj.cells.injEq] at h2
  exact hne h2.2.1
end
end Go.Proofs.YtleofglnlfpoeaaGreat
