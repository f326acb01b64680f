/-
  Texts of these proofs, one behind the other: G4, G14, G22, Tim0.
-/
import Derived.Below
import Derived.Laws.OwnMore
import Derived.Deep.Draws
import Derived.Laws.Rows
import Derived.Deep.RegionHeld3
namespace Go.Proofs.YtngfmofjonleeaaGreat
open Go.RowKit
/-- In block g lie the cells cs, of type t, and nothing else; none is frozen. -/
def Blk (w : World) (g : Nat) (t : TypeId) (cs : Array Value) : Prop := w.heap[g]? = some (Obj.cells cs t (0, 0))
section
variable {w w' : World} {g : Nat} {t : TypeId} {cs : Array Value}
theorem Blk.lt (h : Blk w g t cs) : g < w.heap.size := (Array.getElem?_eq_some_iff.1 h).1
theorem Blk.cell (h : Blk w g t cs) (i : Nat) : w.cell? ⟨g, i, none⟩ = cs[i]? := cell_of_row _ _ _ _ _ _ h
theorem Blk.frozen (h : Blk w g t cs) (i : Nat) : w.frozen? ⟨g, i, none⟩ = false := by
  have h' : w.heap[g]? = some (Obj.cells cs t (0, 0)) := h
  simp only [World.frozen?, h']
  simp
theorem Blk.new (w : World) (t : TypeId) (cs : Array Value) : Blk (w.alloc (.cells cs t)) w.heap.size t cs := heap_alloc_new w _
theorem Blk.drewN (h : Blk w g t cs) (n : Nat) : Blk (w.drewN n) g t cs := h
theorem Blk.alloc (h : Blk w g t cs) (o : Obj) : Blk (w.alloc o) g t cs := by
  show (w.alloc o).heap[g]? = _
  rw [Below.heap_alloc w o g h.lt]; exact h
theorem Blk.set_ (h : Blk w g t cs) (i : Nat) (u : Value) : Blk (w.setCell ⟨g, i, none⟩ u) g t (cs.setIfInBounds i u) := by
  have h' : w.heap[g]? = some (Obj.cells cs t (0, 0)) := h
  show (w.setCell ⟨g, i, none⟩ u).heap[g]? = _
  simp [World.setCell, Array.getElem?_modify, h']
theorem Blk.far (h : Blk w g t cs) {p : Addr} (hp : g ≠ p.block) (u : Value) : Blk (w.setCell p u) g t cs := by
  show (w.setCell p u).heap[g]? = _
  rw [Below.heap_setCell w p u g hp]; exact h
theorem Blk.below {B : Nat} (h : Blk w g t cs) (hb : Below B w w') (hg : g < B) : Blk w' g t cs := by
  show w'.heap[g]? = _
  rw [hb.block g hg]; exact h
theorem Blk.later {w0 : World} (h : Blk w0 g t cs) (hb : Below w.heap.size w w') (he : w.heap = w0.heap) : Blk w' g t cs := by
  show w'.heap[g]? = _
  rw [hb.block g (by rw [he]; exact h.lt), he]; exact h
theorem Blk.grown {row : Option Nat} (h : Blk w g t cs) (hb : w.grownBy w' row) (hg : some g ≠ row) : Blk w' g t cs := by
  show w'.heap[g]? = _
  rw [hb.block g h.lt hg]; exact h
/-- Blocks of two types are two blocks. -/
theorem Blk.ne_ {g' : Nat} {t' : TypeId} {cs' : Array Value} (h : Blk w g t cs) (h' : Blk w g' t' cs') (hne : t ≠ t') : g ≠ g' := fun e => by
  have h1 : w.heap[g]? = some (Obj.cells cs t (0, 0)) := h
  have h2 : w.heap[g]? = some (Obj.cells cs' t' (0, 0)) := by rw [e]; exact h'
  rw [h1] at h2
  simp only [Option.some.injEq, Obj.cells.injEq] at h2
  exact hne h2.2.1
end
end Go.Proofs.YtngfmofjonleeaaGreat
namespace Go.Proofs.YtngfmofjonleeaaGreat
open Go
section
variable {P : Program} {ops : Array Oper} {Q : Exit → Act → World → Prop} {md : Region.Mode} {S : World → Prop}
theorem rg_at {i : Nat} {oi : Oper} (h : ops.toList[i]? = some oi) : ops[i]? = some oi := by rw [← Array.getElem?_toList]; exact h
theorem rg_begin {id : Nat} {a : Act} {w : World} (n : Nat) (l : Array Bool) (hn : ops.size = n) (hl : Array.replicate n false = l) (hm : P.follows .mixedOrders = true) (hS : S w.drew)
    (h : S w.drew → wpAnyH P .any ops Q S n l a w.drew) : (Code.region id ops true).wp P Q a w :=
  wp_region_held_drew hm hS (by rw [hn, hl]; exact h)
theorem rg_take {i : Nat} {d : Option Tmp} {oi : Oper} {v : Value} {fuel : Nat} {listed l : Array Bool} {a : Act} {w : World} (hi : ops.toList[i]? = some oi) (hd : oi.dst = d) (hl : listed.setIfInBounds i true = l)
    (hs : Region.noSelect ops = true) (hf : Region.free md ops listed i = true) (hr : (Region.ready md ops listed).contains i = true)
    (hQ : ∀ c a w, Q (.panic c) (a.put d v) w → Q (.panic c) a w) (hw : Region.wanted oi (yielded ops a.tmps) = true) (hy : ∀ w, S w → (execOp a.eval oi).run P w = .ok (.value v) w) (hS : S w)
    (h : wpAnyH P md ops Q S fuel l (a.put d v) w) : wpAnyH P md ops Q S (fuel + 1) listed a w := by
  subst hd hl
  exact wpAnyH_take (rg_at hi) hs hf hr hQ (Or.inl ⟨hw, hy⟩) hS h
theorem rg_next {i : Nat} {oi : Oper} {fuel : Nat} {listed l : Array Bool} {a : Act} {w : World} (hr : Region.ready md ops listed = [i]) (hi : ops.toList[i]? = some oi) (hl : listed.setIfInBounds i true = l)
    (hw : Region.wanted oi (yielded ops a.tmps) = true) (h : ∀ K' : Act → World → Prop, Shut (∀ a w, S w → (S w → wpAnyH P md ops Q S fuel l a w) → K' a w) → Oper.wp P oi a w K' Q) :
    wpAnyH P md ops Q S (fuel + 1) listed a w := by
  subst hl
  refine wpAnyH_ready hr (by simp) (AllReadyH.cons (rg_at hi) (fun K hK => ?_) AllReadyH.nil)
  rw [if_pos hw]
  exact h K hK
end
theorem exec_load_row {P : Program} {o : Oper} {ρ : Operand → Value} {w : World} (ty : TypeId) (x : Operand) (ho : o.op = .load ty x) (g : Nat) (hx : ρ x = .pointer (some ⟨g, 0, none⟩)) (t : TypeId) (cs : Array Value) (fr : Nat × Nat) (d : TypeDesc)
    (hg : w.heap[g]? = some (.cells cs t fr)) (hu : P.underlying ty = some d) (hd : (match d with | .struct _ | .array _ _ => true | _ => false) = true) (hi : (P.info? ty).map (·.size) = some cs.size) : (execOp ρ o).run P w = .ok (.value (.agg cs)) w := by
  unfold execOp
  simp only [ho, hx, Instr.loadAt, Instr.sureAddr, Sem.run_bind, Sem.run_pure, Result.andThen_ok, run_loadVar_row w g t ty cs fr d hg hu hd hi]
end Go.Proofs.YtngfmofjonleeaaGreat
namespace Go.Proofs.YtngfmofjonleeaaGreat
open Go
section
variable {P : Program} {ops : Array Oper} {Q : Exit → Act → World → Prop} {md : Region.Mode} {S : World → Prop}
/-- What is owed where an operation that is ready is carried out next. -/
def RgStep (P : Program) (md : Region.Mode) (ops : Array Oper) (Q : Exit → Act → World → Prop) (S : World → Prop) (fuel : Nat) (l : Array Bool) (a : Act) (w : World) (oi : Oper) : Prop :=
  ∀ K' : Act → World → Prop, Shut (∀ a w, S w → (S w → wpAnyH P md ops Q S fuel l a w) → K' a w) → Oper.wp P oi a w K' Q
theorem rg_step {i : Nat} {oi : Oper} {fuel : Nat} {listed l : Array Bool} {a : Act} {w : World} {rs : List Nat} (hi : ops.toList[i]? = some oi) (hl : listed.setIfInBounds i true = l)
    (hw : Region.wanted oi (yielded ops a.tmps) = true) (h : RgStep P md ops Q S fuel l a w oi) (hs : AllReadyH P md ops Q S fuel listed a w rs) : AllReadyH P md ops Q S fuel listed a w (i :: rs) := by
  subst hl
  refine AllReadyH.cons (rg_at hi) (fun K hK => ?_) hs
  rw [if_pos hw]
  exact h K hK
theorem rg_of {rs : List Nat} {fuel : Nat} {listed : Array Bool} {a : Act} {w : World} (hr : Region.ready md ops listed = rs) (hne : rs.isEmpty = false)
    (h : AllReadyH P md ops Q S fuel listed a w rs) : wpAnyH P md ops Q S (fuel + 1) listed a w := wpAnyH_ready hr (by rintro rfl; cases hne) h
/-- More is held from here on. -/
theorem rg_more {S' : World → Prop} (h : ∀ w, S' w → S w) : ∀ (fuel : Nat) (listed : Array Bool) (a : Act) (w : World), wpAnyH P md ops Q S' fuel listed a w → wpAnyH P md ops Q S fuel listed a w
  | 0, _, _, _, H => H
  | fuel + 1, _, _, _, H => ⟨H.1, fun i hi => wpOp_mono (fun a' w' h' => ⟨h _ h'.1, rg_more h fuel _ a' w' h'.2⟩) (H.2 i hi)⟩
end
end Go.Proofs.YtngfmofjonleeaaGreat
namespace Go.Proofs.YtngfmofjonleeaaGreat
set_option linter.unusedVariables false
/-- What is counted behind a tick. -/
def tkS (r c : Nat) : Nat := if c = 0 then r else c - 1
/-- What is counted behind n ticks, and how often it was over. -/
def tkC (r : Nat) : Nat → Nat → Nat
  | 0, c => c
  | n + 1, c => tkC r n (tkS r c)
def tkO (r : Nat) : Nat → Nat → Nat
  | 0, _ => 0
  | n + 1, c => (if c = 0 then 1 else 0) + tkO r n (tkS r c)
theorem tkC_add (r a b c : Nat) : tkC r (a + b) c = tkC r b (tkC r a c) := by
  induction a generalizing c with
  | zero => simp [tkC]
  | succ a ih => rw [Nat.add_right_comm]; simp only [tkC]; exact ih _
theorem tkO_add (r a b c : Nat) : tkO r (a + b) c = tkO r a c + tkO r b (tkC r a c) := by
  induction a generalizing c with
  | zero => simp [tkC, tkO]
  | succ a ih => rw [Nat.add_right_comm]; simp only [tkC, tkO]; rw [ih]; omega
theorem tkO_le (r n c : Nat) : tkO r n c ≤ n := by
  induction n generalizing c with
  | zero => simp [tkO]
  | succ n ih => simp only [tkO]; have := ih (tkS r c); split <;> omega
theorem tkS_le {r c m : Nat} (h : r ≤ m) (h' : c ≤ m) : tkS r c ≤ m := by unfold tkS; split <;> omega
theorem tkC_le {r n c m : Nat} (h : r ≤ m) (h' : c ≤ m) : tkC r n c ≤ m := by
  induction n generalizing c with
  | zero => simpa [tkC] using h'
  | succ n ih => simp only [tkC]; exact ih (tkS_le h h')
theorem tk_loop {r m c : Nat} (h : tkC r m c = c) (k : Nat) : tkC r (k * m) c = c ∧ tkO r (k * m) c = k * tkO r m c := by
  induction k with
  | zero => simp [tkC, tkO]
  | succ k ih =>
    rw [Nat.succ_mul, tkC_add, tkO_add, ih.1, ih.2, h]
    exact ⟨rfl, by rw [Nat.succ_mul]⟩
structure Tm where
  gone : Nat
  c : Nat
  r : Nat
  on : Bool
def Tm.ok (s : Tm) : Prop := s.gone < 3072 ∧ s.c ≤ 127 ∧ s.r ≤ 127
def Tm.new : Tm := ⟨0, 0, 0, false⟩
theorem Tm.new_ok : Tm.new.ok := ⟨by decide, by decide, by decide⟩
/-- It goes on by so many master clocks. -/
def Tm.goN (s : Tm) (n : Nat) : Tm := if s.on = true then ⟨(s.gone + n) % 3072, tkC s.r ((s.gone + n) / 3072) s.c, s.r, true⟩ else s
def Tm.overN (s : Tm) (n : Nat) : Nat := if s.on = true then tkO s.r ((s.gone + n) / 3072) s.c else 0
def Tm.wr (s : Tm) (reg b : Int) : Tm :=
  if reg = 0 then ⟨s.gone, s.c, (b % 128).toNat, s.on⟩
  else if reg = 1 then if b % 2 = 1 then if s.on = true then s else ⟨0, s.r, s.r, true⟩ else ⟨s.gone, s.c, s.r, false⟩
  else s
theorem Tm.go_ok {s : Tm} (h : s.ok) (n : Nat) : (s.goN n).ok := by
  obtain ⟨a, b, c⟩ := h
  unfold Tm.goN
  split
  · exact ⟨Nat.mod_lt _ (by omega), tkC_le c b, c⟩
  · exact ⟨a, b, c⟩
end Go.Proofs.YtngfmofjonleeaaGreat
