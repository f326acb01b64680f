/-
  For CartOver: the world between the operations of its first region that draws: a boxed piece, a row of the call's own, a block of one piece, a block for a fault. Each operation's step.
-/
import Derived.Test.YtfhndajhlpakoaaCart17
import Derived.Test.YtfhndajhlpakoaaG14
import Derived.Test.YtfhndajhlpakoaaCart2
namespace Go.Proofs.Ytfhndajhlpakoaa
open Go.RowKit
set_option linter.unusedVariables false
section
variable {P : Program} {ops : Array Oper} {Q : Exit → Act → World → Prop} {md : Region.Mode} {S : World → Prop}
/-- One step of a region, as it is handed over: the operation is wanted. -/
def RgStep (P : Program) (md : Region.Mode) (ops : Array Oper) (Q : Exit → Act → World → Prop) (S : World → Prop) (fuel : Nat) (l : Array Bool) (a : Act) (w : World) (oi : Oper) : Prop :=
  ∀ K' : Act → World → Prop, Shut (∀ a w, S w → (S w → wpAnyH P md ops Q S fuel l a w) → K' a w) → Oper.wp P oi a w K' Q
theorem rg_step {i : Nat} {oi : Oper} {fuel : Nat} {listed l : Array Bool} {a : Act} {w : World} {rs : List Nat} (hi : ops.toList[i]? = some oi) (hl : listed.setIfInBounds i true = l)
    (hw : Region.wanted oi (yielded ops a.tmps) = true) (h : RgStep P md ops Q S fuel l a w oi) (hs : AllReadyH P md ops Q S fuel listed a w rs) : AllReadyH P md ops Q S fuel listed a w (i :: rs) := by
  subst hl
  refine AllReadyH.cons (rg_at hi) (fun K hK => ?_) hs
  rw [if_pos hw]
  exact h K hK
theorem rg_of {rs : List Nat} {fuel : Nat} {listed : Array Bool} {a : Act} {w : World} (hr : Region.ready md ops listed = rs) (hne : rs.isEmpty = false)
    (h : AllReadyH P md ops Q S fuel listed a w rs) : wpAnyH P md ops Q S (fuel + 1) listed a w := wpAnyH_ready hr (by rintro rfl; cases hne) h
end
theorem wp_append_any {P : Program} {w w' : World} {o : Oper} {a : Act} {K : Act → World → Prop} {Q : Exit → Act → World → Prop} (s x : Operand) (t : TypeId)
    (ho : o.op = .call { callee := .builtin .append, args := #[s, x], argTypes := #[t, t] }) {v u v' : Value} (hs : a.eval s = v) (hx : a.eval x = u)
    (hrun : (Builtin.append_ #[t, t] o.type #[v, u]).run P w = .ok v' w') (h : K (a.put o.dst v') w') : Oper.wp P o a w K Q := by
  unfold Oper.wp execOp
  simp only [ho, resolve, invoke, builtin, Sem.run_bind, Sem.run_pure, Result.andThen_ok, List.map_toArray, List.map_cons, List.map_nil, hs, hx, hrun]
  exact h
/-- Behind a row of the call's own the pieces of a slice that came in, nil or not; and where it lies then. -/
theorem more_pieces_at {ty : TypeId} {w : World} {base n : Nat} {v : Value} {xs : List Value} (hown : w.ownsRow base 25 2 v n xs) {A : Option Addr} {m c : Nat} {ps : Nat → Pc} (R : PRow w A m ps) (hm : n + m ≤ 1048576) (hbase : base ≤ w.heap.size) :
    ∃ v' w', (Builtin.append_ #[22, 22] ty #[v, .slice A m c]).run Try.prog w = .ok v' w' ∧ w'.ownsRow base 25 2 v' (n + m) (xs ++ cellsP ps m) ∧ w.grownBy w' v.ownBlock ∧ (v'.ownBlock = v.ownBlock ∨ v'.ownBlock = some w.heap.size) := by
  obtain ⟨i, hi, hzz⟩ := Option.map_eq_some_iff.1 piece_info
  simp only [Prod.mk.injEq] at hzz
  obtain ⟨hz, hs, hb⟩ := hzz
  have ht : Try.prog.underlying 22 = some (.slice 25) := Try.underlying22
  cases A with
  | none =>
    have h0 : m = 0 := by
      rcases Nat.eq_zero_or_pos m with h | h
      · exact h
      · obtain ⟨_, e, _⟩ := R 0 h; cases e
    subst h0
    refine ⟨v, w, ?_, by simpa [cellsP] using hown, World.grownBy.refl w _, Or.inl rfl⟩
    rcases hown.2 with ⟨rfl, rfl⟩ | ⟨g, cap, cur, rfl, _, _, hnc, _⟩
    · simp [Builtin.append_, run_underlying ht, sizeOf, typeInfo, hi, Builtin.lenOf, Builtin.firstCells]
    · simp [Builtin.append_, run_underlying ht, sizeOf, typeInfo, hi, Builtin.lenOf, Builtin.firstCells, hnc, storeCells]
  | some ad =>
    obtain ⟨v', w', h1, h2, h3, _, h5⟩ := run_append_own_at (P := Try.prog) w base 22 ty 25 i _ 2 32 ht hi hz hs hb rfl (by omega) v n xs hown ad m c (cellsP ps m) (by rw [cellsP_len])
      (prow_cells R) (cellsP_one ps m) (by unfold maxLen; omega) (by omega) hbase
    exact ⟨v', w', h1, h2, h3, h5⟩
theorem own_blk {w : World} {B n size : Nat} {e : TypeId} {v : Value} {xs : List Value} (h : w.ownsRow B e size v n xs) : v.ownBlock = none ∨ ∃ g cur, v.ownBlock = some g ∧ B ≤ g ∧ Blk w g e cur := by
  rcases h.2 with ⟨rfl, _⟩ | ⟨g, cap, cur, rfl, hb, hg, _⟩
  · exact .inl rfl
  · exact .inr ⟨g, cur, rfl, hb, hg⟩
structure Sx (W : World) (p : Pc) (w : World) (row : Option (Value × Nat × List Value)) (gd gh : Option Nat) : Prop where
  bx : Below W.heap.size W w
  own : ∀ v n xs, row = some (v, n, xs) → w.ownsRow W.heap.size 25 2 v n xs
  one : ∀ g, gd = some g → Blk w g 25 #[.int .i64 p.at_, .slice p.A p.n p.c] ∧ ∀ v n xs, row = some (v, n, xs) → v.ownBlock ≠ some g
  flt : ∀ g, gh = some g → Blk w g 30 #[.int .i64 0, .int .i64 0] ∧ W.heap.size ≤ g
section
variable {W w w' : World} {p : Pc} {row : Option (Value × Nat × List Value)} {gd gh : Option Nat}
theorem Sx.start (h : Below W.heap.size W w) : Sx W p w none none none := ⟨h, fun _ _ _ e => (nomatch e), fun _ e => (nomatch e), fun _ e => (nomatch e)⟩
theorem Sx.alloc (h : Sx W p w row gd gh) (o : Obj) : Sx W p (w.alloc o) row gd gh :=
  ⟨h.bx.alloc h.bx.size o, fun v n xs e => (h.own v n xs e).alloc o, fun g e => ⟨(h.one g e).1.alloc o, (h.one g e).2⟩, fun g e => ⟨(h.flt g e).1.alloc o, (h.flt g e).2⟩⟩
theorem Sx.rowed (h : Sx W p w none gd gh) : Sx W p (w.alloc (.cells #[] 25)) (some (.slice (some ⟨w.heap.size, 0, none⟩) 0 0, 0, [])) gd gh := by
  have k := h.alloc (.cells #[] 25)
  refine ⟨k.bx, fun v n xs e => ?_, fun g e => ⟨(k.one g e).1, fun v n xs e2 => ?_⟩, k.flt⟩
  · cases e
    exact ⟨rfl, Or.inr ⟨w.heap.size, 0, #[], rfl, h.bx.size, Blk.new w _ _, Nat.le_refl _, by unfold maxLen; omega, rfl, rfl⟩⟩
  · cases e2
    have := (h.one g e).1.lt
    simp only [Value.ownBlock, ne_eq, Option.some.injEq]
    omega
theorem Sx.box (h : Sx W p w row none gh) : Sx W p (w.alloc (.cells #[.int .i64 p.at_, .slice p.A p.n p.c] 25)) row (some w.heap.size) gh := by
  have k := h.alloc (.cells #[.int .i64 p.at_, .slice p.A p.n p.c] 25)
  refine ⟨k.bx, k.own, fun g e => ?_, k.flt⟩
  cases e
  refine ⟨Blk.new w _ _, fun v n xs e hv => ?_⟩
  rcases own_blk (h.own v n xs e) with h0 | ⟨g, cur, h0, _, h1⟩
  · rw [h0] at hv; cases hv
  · rw [h0] at hv
    have := h1.lt
    cases hv
    omega
theorem Sx.fault (h : Sx W p w row gd none) : Sx W p (w.alloc (.cells #[.int .i64 0, .int .i64 0] 30)) row gd (some w.heap.size) := by
  have k := h.alloc (.cells #[.int .i64 0, .int .i64 0] 30)
  refine ⟨k.bx, k.own, k.one, fun g e => ?_⟩
  cases e
  exact ⟨Blk.new w _ _, h.bx.size⟩
theorem Sx.grown {v v' : Value} {n n' : Nat} {xs xs' : List Value} (h : Sx W p w (some (v, n, xs)) gd gh) (hg : w.grownBy w' v.ownBlock) (o : w'.ownsRow W.heap.size 25 2 v' n' xs')
    (hl : v'.ownBlock = v.ownBlock ∨ v'.ownBlock = some w.heap.size) : Sx W p w' (some (v', n', xs')) gd gh := by
  have ob := own_blk (h.own v n xs rfl)
  refine ⟨h.bx.grown hg h.bx.size (fun k hk => ?_), fun v2 n2 xs2 e => by cases e; exact o, fun g e => ⟨(h.one g e).1.grown hg (fun e2 => (h.one g e).2 v n xs rfl e2.symm), fun v2 n2 xs2 e2 => ?_⟩, fun g e => ⟨(h.flt g e).1.grown hg (fun e2 => ?_), (h.flt g e).2⟩⟩
  · rcases ob with h0 | ⟨g, cur, h0, h1, _⟩
    · rw [h0] at hk; cases hk
    · rw [h0] at hk; cases hk; omega
  · cases e2
    intro e3
    rcases hl with hl | hl
    · exact (h.one g e).2 v n xs rfl (hl.symm.trans e3)
    · rw [hl] at e3
      have := (h.one g e).1.lt
      cases e3
      omega
  · rcases ob with h0 | ⟨g', cur, h0, _, h1⟩
    · rw [h0] at e2; cases e2
    · rw [h0] at e2
      cases e2
      exact (h.flt g e).1.ne_ h1 (by decide) rfl
theorem Sx.app1 {v : Value} {A : Option Addr} {m c : Nat} {ps : Nat → Pc} {ty : TypeId} (h : Sx W p w (some (v, 0, [])) gd gh) (R : PRow W A m ps) (hm : m ≤ 1048576) :
    ∃ v' w', (Builtin.append_ #[22, 22] ty #[v, .slice A m c]).run Try.prog w = .ok v' w' ∧ Sx W p w' (some (v', m, cellsP ps m)) gd gh := by
  obtain ⟨v', w', h1, h2, h3, h4⟩ := more_pieces_at (ty := ty) (c := c) (h.own _ _ _ rfl) (R.keep h.bx) (by omega) h.bx.size
  rw [Nat.zero_add, List.nil_append] at h2
  exact ⟨v', w', h1, h.grown h3 h2 h4⟩
theorem Sx.app2 {v : Value} {g m c : Nat} {ps : Nat → Pc} {ty : TypeId} (h : Sx W p w (some (v, m, cellsP ps m)) (some g) gh) (hm : m ≤ 1048576) :
    ∃ v' w', (Builtin.append_ #[22, 22] ty #[v, .slice (some ⟨g, 0, none⟩) 1 c]).run Try.prog w = .ok v' w' ∧ Sx W p w' (some (v', m + 1, cellsP (fun i => if i < m then ps i else p) (m + 1))) none gh := by
  obtain ⟨i, hi, hzz⟩ := Option.map_eq_some_iff.1 piece_info
  simp only [Prod.mk.injEq] at hzz
  obtain ⟨hz, hs, hb⟩ := hzz
  have hg := (h.one g rfl).1
  obtain ⟨v', w', r1, r2, r3, _, r5⟩ := run_append_own_at (P := Try.prog) w W.heap.size 22 ty 25 i _ 2 32 Try.underlying22 hi hz hs hb rfl (by omega) v m _ (h.own _ _ _ rfl) ⟨g, 0, none⟩ 1 c [.int .i64 p.at_, .slice p.A p.n p.c] rfl
    (fun j u hu => by
      rw [add_zero_block, hg.cell]
      simpa using hu)
    (by simp [Value.oneCell']) (by unfold maxLen; omega) (by omega) h.bx.size
  refine ⟨v', w', r1, ?_⟩
  have h' : Sx W p w (some (v, m, cellsP ps m)) none gh := ⟨h.bx, h.own, fun _ e => (nomatch e), h.flt⟩
  refine h'.grown r3 ?_ r5
  rw [cellsP_succ, cellsP_congr _ ps _ (fun i hi => if_pos hi), if_neg (Nat.lt_irrefl _)]
  exact r2
/-- The row's pieces, to be made into an image. -/
theorem Sx.pieces {v : Value} {m : Nat} {qs : Nat → Pc} (h : Sx W p w (some (v, m, cellsP qs m)) gd gh) (hP : ∀ i, i < m → PcOk W (qs i)) : ∃ Ap cap, v = .slice Ap m cap ∧ PRow w Ap m qs :=
  prow_of (h.own _ _ _ rfl) (fun i hi => (hP i hi).keep h.bx)
/-- Behind a call: the row is no more of use. -/
theorem Sx.call (h : Sx W p w row gd gh) (hb : Below w.heap.size w w') : Sx W p w' none none gh :=
  ⟨h.bx.trans (hb.mono h.bx.size), fun _ _ _ e => (nomatch e), fun _ e => (nomatch e), fun g e => ⟨(h.flt g e).1.below hb (h.flt g e).1.lt, (h.flt g e).2⟩⟩
end
/-- What became of an image of 16384 bytes, of k pieces. -/
def Made (qs : Nat → Pc) (k : Nat) (w : World) (b : Value) (ge ga : Int) : Prop :=
  (∃ j, j < k ∧ ¬ good 16384 (qs j) ∧ (∀ i, i < j → good 16384 (qs i)) ∧ b = .slice none 0 0 ∧ ge = 1 ∧ ga = j) ∨
  ((∀ i, i < k → good 16384 (qs i)) ∧ ge = 0 ∧ ga = 0 ∧ ∃ g C, b = .slice (some ⟨g, 0, none⟩) 16384 16384 ∧ Blk w g 5 (List.toArray C) ∧ BArr C 16384 (laid qs k))
theorem made_of {qs : Nat → Pc} {k : Nat} {w w' : World} {e : Ending} (h : MakeR qs k 16384 w e w') : ∃ (b : Value) (ge ga : Int), e = .returned (.tuple #[b, .agg #[.int .i64 ge, .int .i64 ga]]) ∧ Hid (Made qs k w' b ge ga) := by
  rcases h.2 with ⟨j, hj, hbad, hgd, rfl⟩ | ⟨hall, g, C, rfl, hg, hG, hA⟩
  · exact ⟨_, _, _, rfl, Lib.hid (Or.inl ⟨j, hj, hbad, hgd, rfl, rfl, rfl⟩)⟩
  · exact ⟨_, _, _, rfl, Lib.hid (Or.inr ⟨hall, rfl, rfl, g, C, rfl, hG, hA⟩)⟩
theorem Made.by_ {qs : Nat → Pc} {k : Nat} {w w' : World} {b : Value} {ge ga : Int} (h : Made qs k w b ge ga) (hk : ∀ g C, Blk w g 5 C → Blk w' g 5 C) : Made qs k w' b ge ga := by
  rcases h with h | ⟨h1, h2, h3, g, C, h4, h5, h6⟩
  · exact Or.inl h
  · exact Or.inr ⟨h1, h2, h3, g, C, h4, hk g _ h5, h6⟩
theorem Made.alloc {qs : Nat → Pc} {k : Nat} {w : World} {b : Value} {ge ga : Int} (h : Made qs k w b ge ga) (o : Obj) : Made qs k (w.alloc o) b ge ga := h.by_ (fun g C hb => hb.alloc o)
theorem Made.keep {qs : Nat → Pc} {k : Nat} {w w' : World} {b : Value} {ge ga : Int} (h : Made qs k w b ge ga) (hb : Below w.heap.size w w') : Made qs k w' b ge ga := h.by_ (fun g C h => h.below hb h.lt)
theorem Sx.stored {W w : World} {p : Pc} {row : Option (Value × Nat × List Value)} {gd : Option Nat} {g k : Nat} {qs : Nat → Pc} {b : Value} {ge ga : Int} (h : Sx W p w row gd (some g)) (hm : Made qs k w b ge ga) :
    Below W.heap.size W ((w.setCell ⟨g, 0, none⟩ (.int .i64 ge)).setCell ⟨g, 1, none⟩ (.int .i64 ga)) ∧ Blk ((w.setCell ⟨g, 0, none⟩ (.int .i64 ge)).setCell ⟨g, 1, none⟩ (.int .i64 ga)) g 30 #[.int .i64 ge, .int .i64 ga] ∧
      Made qs k ((w.setCell ⟨g, 0, none⟩ (.int .i64 ge)).setCell ⟨g, 1, none⟩ (.int .i64 ga)) b ge ga := by
  obtain ⟨hf, hg⟩ := h.flt g rfl
  refine ⟨(h.bx.setCell hg _).setCell hg _, (hf.set_ 0 _).set_ 1 _, hm.by_ fun g2 C hb => (hb.far ?_ _).far ?_ _⟩
  · exact hb.ne_ hf (by decide)
  · exact hb.ne_ hf (by decide)
/-- Behind the region: the second image or its fault, and where the fault lies. -/
def OverR (W : World) (qs : Nat → Pc) (k : Nat) (b f : Value) (wx : World) : Prop :=
  ∃ g8 ge ga, f = .pointer (some ⟨g8, 0, none⟩) ∧ Below W.heap.size W wx ∧ Blk wx g8 30 #[.int .i64 ge, .int .i64 ga] ∧ Made qs k wx b ge ga
theorem laid_more (ps : Nat → Pc) (p : Pc) (m k : Nat) : laid (fun i => if i < m then ps i else p) (m + 1) k = if p.at_ ≤ k ∧ (k : Int) < p.at_ + p.n then p.z ((k : Int) - p.at_).toNat else laid ps m k := by
  have h : ∀ j, j ≤ m → laid (fun i => if i < m then ps i else p) j k = laid ps j k := fun j => by
    induction j with
    | zero => intro _; rfl
    | succ j ih =>
      intro hj
      unfold laid
      rw [ih (by omega)]
      simp only [if_pos (show j < m by omega)]
  show (if _ then _ else _) = _
  simp only [Nat.lt_irrefl, if_false]
  rw [h m (Nat.le_refl _)]
end Go.Proofs.Ytfhndajhlpakoaa
