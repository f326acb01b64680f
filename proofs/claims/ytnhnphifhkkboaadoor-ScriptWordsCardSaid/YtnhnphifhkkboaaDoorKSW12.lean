/-
  Texts of these proofs, one behind the other: G10, Cart0.
-/
import Derived.Test.YtnhnphifhkkboaaDoorKSW01
import Derived.Deep.Slices
import Derived.Deep.Fields
import Derived.ChangeSame
import Derived.Lib.SmallJoins
import Derived.Test.YtnhnphifhkkboaaDoorKSW11
import Derived.Laws.CopyOwn
namespace Go.Proofs.YtnhnphifhkkboaaDoor
open Go.ChangeShapes Go.WideShapes Go.Deep Go.RowKit
set_option linter.unusedVariables false
section
variable {H : Type} {enc : TypeId × Value → H} {P : Program} {w : World} {base : Nat} {spare : Nat → Bool} {held : Bool}
/-- An argument that is a slice of structs, each field one cell. -/
theorem open_slice_fields {t e : TypeId} {fs : Array Field} {fuel : Nat} {cs : List Value} {x : DataW H × List MemPlace} (ht : P.underlying t = some (.slice e)) (he : P.underlying e = some (.struct fs))
    (hone : oneCellFields P fs = true) (hC : P.cellsOf e = fs.size) (h : DataW.trod enc P w base spare held fuel t cs = some x) :
    (cs = [.slice none 0 0] ∧ x = (.nil, [])) ∨
    ∃ (a : Addr) (len cap m : Nat) (D : Nat → DataW H) (Pl : Nat → List MemPlace), cs = [.slice (some a) len cap] ∧ base ≤ a.block ∧ len ≤ cap ∧ cap ≤ maxLen ∧ m = (if spare a.block then cap else len) ∧
      x = (.slice ((List.range len).map D) ((List.range (m - len)).map fun j => D (len + j)), MemPlace.row a (m * fs.size) ++ (List.range m).flatMap Pl) ∧
      ∀ i, i < m → ∃ (ys : List (DataW H × List MemPlace)) (n : Nat), D i = .agg (ys.map (·.1)) ∧ Pl i = ys.flatMap (·.2) ∧ ys.length = fs.size ∧
        ∀ (j : Nat) (f : Field), fs[j]? = some f → ∃ (v : Value) (y : DataW H × List MemPlace), w.cell? (a.add (i * fs.size + j)) = some v ∧ ys[j]? = some y ∧ DataW.trod enc P w base spare held n f.type [v] = some y := by
  rcases open_slice ht h with h0 | ⟨a, len, cap, m, n, D, Pl, hcs, hb, hl, hm, hmm, hx, hi⟩
  · exact .inl h0
  · refine .inr ⟨a, len, cap, m, D, Pl, hcs, hb, hl, hm, hmm, by rw [hC] at hx; exact hx, fun i him => ?_⟩
    obtain ⟨cs', hc, ht'⟩ := hi i him
    rw [hC] at hc
    obtain ⟨ys, n', hn', hy, hlen, hyl, hf⟩ := DataW.trod_struct he ht'
    obtain ⟨_, hcl, hat⟩ := World.cells?_some hc
    simp only [Prod.mk.injEq] at hy
    refine ⟨ys, n', hy.1, hy.2, hyl, fun j f hj => ?_⟩
    obtain ⟨ho, hk⟩ := hone_of hone j f hj
    have hjl : j < fs.size := (Array.getElem?_eq_some_iff.1 hj).1
    have hcell := hat j hjl
    have hv : cs'[j]? = some (cs'[j]'(by omega)) := List.getElem?_eq_getElem (by omega)
    have h1 := hf j f hj
    rw [ho, hk] at h1
    have hone' : (cs'.drop j).take 1 = [cs'[j]'(by omega)] := by
      rw [List.drop_eq_getElem_cons (by omega)]
      rfl
    rw [hone'] at h1
    have hys : ys[j]? = some (ys[j]'(by omega)) := List.getElem?_eq_getElem (by omega)
    refine ⟨_, _, ?_, hys, h1.trans hys⟩
    rw [← Go.Deep.add_add, hcell, hv]
/-- One slice of integers, as it is read in a field. -/
theorem field_ints {t e : TypeId} {k : IntKind} {fuel : Nat} {v : Value} {y : DataW H × List MemPlace} (ht : P.underlying t = some (.slice e)) (he : P.underlying e = some (.int k)) (hc : P.cellsOf e = 1)
    (h : DataW.trod enc P w base (fun _ => true) true fuel t [v] = some y) : ∃ A n cap zs, v = .slice A n cap ∧ n ≤ cap ∧ cap ≤ maxLen ∧ IRow w k A n zs := by
  rcases open_ints ht he hc h with ⟨hcs, _⟩ | ⟨a, len', cap', zs, hcs, _, hl, hm, hz, _, hcell, hwz⟩
  · simp only [List.cons.injEq, and_true] at hcs
    subst hcs
    exact ⟨none, 0, 0, fun _ => 0, rfl, Nat.le_refl _, by unfold maxLen; omega, fun i hi => absurd hi (by omega)⟩
  · simp only [List.cons.injEq, and_true] at hcs
    subst hcs
    simp only [if_true] at hz
    refine ⟨some a, len', cap', fun i => zs.getD i 0, rfl, hl, hm, fun i hi => ⟨a, rfl, ?_, hcell i (by omega), ?_⟩⟩
    · have := cell_lt (hcell i (by omega)); rwa [block_of_add] at this
    · have hi' : i < zs.length := by omega
      exact hwz _ (by simp [List.getD, List.getElem?_eq_getElem hi'])
end
theorem add_of_add (a : Addr) (i j : Nat) : (a.add i).add j = a.add (i + j) := by
  unfold Addr.add
  by_cases hi : i = 0 <;> by_cases hj : j = 0 <;> simp [hi, hj, Nat.add_assoc]
theorem cell_next {w : World} {ad : Addr} {k : Nat} {v : Value} (h : w.cell? (ad.add (k + 1)) = some v) : w.cell? ⟨(ad.add k).block, (ad.add k).off + 1, none⟩ = some v := by
  rw [← add_of_add] at h
  exact h
/-- A piece: its place, and its bytes. -/
structure Pc where
  at_ : Int
  A : Option Addr
  n : Nat
  c : Nat
  z : Nat → Int
def PcOk (w : World) (p : Pc) : Prop := (Lit.int .i64 p.at_).wf = true ∧ p.n ≤ p.c ∧ p.c ≤ maxLen ∧ IRow w .u8 p.A p.n p.z
def PRow (w : World) (A : Option Addr) (m : Nat) (ps : Nat → Pc) : Prop :=
  ∀ i, i < m → ∃ ad : Addr, A = some ad ∧ ad.block < w.heap.size ∧ w.cell? (ad.add (i * 2)) = some (.int .i64 (ps i).at_) ∧ w.cell? (ad.add (i * 2 + 1)) = some (.slice (ps i).A (ps i).n (ps i).c) ∧ PcOk w (ps i)
theorem PcOk.keep {w w' : World} {p : Pc} (h : PcOk w p) (hb : Below w.heap.size w w') : PcOk w' p := ⟨h.1, h.2.1, h.2.2.1, h.2.2.2.keep hb⟩
theorem PRow.keep {w w' : World} {A : Option Addr} {m : Nat} {ps : Nat → Pc} (h : PRow w A m ps) (hb : Below w.heap.size w w') : PRow w' A m ps := fun i hi => by
  obtain ⟨ad, e, hl, h0, h1, hp⟩ := h i hi
  exact ⟨ad, e, Nat.lt_of_lt_of_le hl hb.size, (hb.cell (by rw [block_of_add]; exact hl)).trans h0, (hb.cell (by rw [block_of_add]; exact hl)).trans h1, hp.keep hb⟩
section
variable {H : Type} {enc : TypeId × Value → H} {P : Program} {w : World} {base : Nat} {r : Reach} {b0 : Nat} {t e tb eb : TypeId} {f0 f1 : Field} {v : Value} {d : DataW H} {ps : List MemPlace}
theorem slice_pieces (ht : P.underlying t = some (.slice e)) (he : P.underlying e = some (.struct #[f0, f1])) (hone : oneCellFields P #[f0, f1] = true) (hC : P.cellsOf e = 2)
    (h0 : P.underlying f0.type = some (.int .i64)) (h1 : P.underlying f1.type = some (.slice eb)) (h2 : P.underlying eb = some (.int .u8)) (h3 : P.cellsOf eb = 1)
    (hval : Value.okWide P w r b0 t v) (hd : DataW.Trod enc P w base (fun _ => true) true t v d ps) :
    ∃ A n cap pcs, v = .slice A n cap ∧ n ≤ cap ∧ cap ≤ maxLen ∧ PRow w A n pcs := by
  obtain ⟨a0, len, cap, rfl⟩ := okWide_slice ht hval
  obtain ⟨fuel, hf⟩ := hd
  rcases open_slice_fields ht he hone hC hf with ⟨hcs, _⟩ | ⟨a, len', cap', m, D, Pl, hcs, _, hl, hm, hmm, _, hi⟩
  · simp only [Value.cells, List.cons.injEq, Value.slice.injEq, and_true] at hcs
    obtain ⟨rfl, rfl, rfl⟩ := hcs
    exact ⟨none, 0, 0, fun _ => ⟨0, none, 0, 0, fun _ => 0⟩, rfl, Nat.le_refl _, by unfold maxLen; omega, fun i hi => absurd hi (by omega)⟩
  · simp only [Value.cells, List.cons.injEq, Value.slice.injEq, and_true] at hcs
    obtain ⟨rfl, rfl, rfl⟩ := hcs
    simp only [if_true] at hmm
    have key : ∀ i, i < len → ∃ p : Pc, w.cell? (a.add (i * 2)) = some (.int .i64 p.at_) ∧ w.cell? (a.add (i * 2 + 1)) = some (.slice p.A p.n p.c) ∧ PcOk w p := fun i hil => by
      obtain ⟨ys, n, _, _, _, hfs⟩ := hi i (by omega)
      obtain ⟨v0, y0, c0, _, t0⟩ := hfs 0 f0 rfl
      obtain ⟨v1, y1, c1, _, t1⟩ := hfs 1 f1 rfl
      obtain ⟨z, e0, _, wz⟩ := DataW.trod_int h0 t0
      simp only [List.cons.injEq, and_true] at e0
      subst e0
      obtain ⟨A, nn, cc, zs, rfl, g1, g2, g3⟩ := field_ints h1 h2 h3 t1
      exact ⟨⟨z, A, nn, cc, zs⟩, c0, c1, wz, g1, g2, g3⟩
    classical
    refine ⟨some a, len, cap, fun i => if h : i < len then Classical.choose (key i h) else ⟨0, none, 0, 0, fun _ => 0⟩, rfl, hl, hm, fun i hil => ⟨a, rfl, ?_, ?_⟩⟩
    · have := cell_lt (Classical.choose_spec (key i hil)).1; rwa [block_of_add] at this
    · simp only [dif_pos hil]; exact Classical.choose_spec (key i hil)
theorem piece_value (he : P.underlying e = some (.struct #[f0, f1])) (hone : oneCellFields P #[f0, f1] = true) (hC : P.cellsOf e = 2)
    (h0 : P.underlying f0.type = some (.int .i64)) (h1 : P.underlying f1.type = some (.slice eb)) (h2 : P.underlying eb = some (.int .u8)) (h3 : P.cellsOf eb = 1)
    (hval : Value.okWide P w r b0 e v) (hd : DataW.Trod enc P w base (fun _ => true) true e v d ps) :
    ∃ p : Pc, v = .agg #[.int .i64 p.at_, .slice p.A p.n p.c] ∧ PcOk w p := by
  obtain ⟨v0, v1, y0, y1, n, rfl, _, _, t0, t1⟩ := Go.Joins.open_agg2 he hone hC hval hd
  obtain ⟨z, e0, _, wz⟩ := DataW.trod_int h0 t0
  simp only [List.cons.injEq, and_true] at e0
  subst e0
  obtain ⟨A, nn, cc, zs, rfl, g1, g2, g3⟩ := field_ints h1 h2 h3 t1
  exact ⟨⟨z, A, nn, cc, zs⟩, rfl, wz, g1, g2, g3⟩
end
end Go.Proofs.YtnhnphifhkkboaaDoor
namespace Go.Proofs.YtnhnphifhkkboaaDoor
open Go.RowKit
set_option linter.unusedVariables false
/-- A piece lies within so many bytes. -/
def good (S : Int) (p : Pc) : Prop := 0 ≤ p.at_ ∧ (p.n : Int) ≤ S - p.at_
instance (S : Int) (p : Pc) : Decidable (good S p) := by unfold good; infer_instance
/-- The byte at a place, when k pieces have been laid. -/
def laid (ps : Nat → Pc) : Nat → Nat → Int
  | 0, _ => 0
  | k + 1, i => if (ps k).at_ ≤ i ∧ (i : Int) < (ps k).at_ + (ps k).n then (ps k).z ((i : Int) - (ps k).at_).toNat else laid ps k i
/-- Cells that are bytes. -/
def BArr (C : List Value) (S : Nat) (f : Nat → Int) : Prop := C.length = S ∧ ∀ i, i < S → C[i]? = some (.int .u8 (f i))
theorem BArr.zero (S : Nat) : BArr (List.replicate S (.int .u8 0)) S (fun _ => 0) := ⟨by simp, fun i hi => by simp [hi]⟩
theorem BArr.congr {C : List Value} {S : Nat} {f g : Nat → Int} (h : BArr C S f) (e : ∀ i, i < S → f i = g i) : BArr C S g := ⟨h.1, fun i hi => by rw [h.2 i hi, e i hi]⟩
theorem splice_at {α : Type} (L : List α) (off : Nat) (cs : List α) (h : off + cs.length ≤ L.length) (i : Nat) : (splice L off cs)[i]? = if off ≤ i ∧ i < off + cs.length then cs[i - off]? else L[i]? := by
  unfold splice
  by_cases h1 : i < off
  · rw [List.getElem?_append_left (by simp; omega), if_neg (by omega), List.getElem?_take_of_lt h1]
  · rw [List.getElem?_append_right (by simp; omega)]
    have e : (L.take off).length = off := by simp; omega
    rw [e]
    by_cases h2 : i < off + cs.length
    · rw [if_pos ⟨by omega, h2⟩, List.getElem?_append_left (by omega)]
    · rw [if_neg (by omega), List.getElem?_append_right (by omega), List.getElem?_drop]
      congr 1; omega
theorem BArr.lay {C : List Value} {S : Nat} {ps : Nat → Pc} {k : Nat} (h : BArr C S (laid ps k)) (hg : good S (ps k)) : BArr (splice C (ps k).at_.toNat (bytesOf (ps k).z (ps k).n)) S (laid ps (k + 1)) := by
  obtain ⟨g0, g1⟩ := hg
  have hl : (ps k).at_.toNat + (bytesOf (ps k).z (ps k).n).length ≤ C.length := by rw [bytesOf_len, h.1]; omega
  refine ⟨by rw [length_splice _ _ _ hl, h.1], fun i hi => ?_⟩
  rw [splice_at _ _ _ hl, bytesOf_len]
  by_cases c : (ps k).at_ ≤ i ∧ (i : Int) < (ps k).at_ + (ps k).n
  · have e1 : laid ps (k + 1) i = (ps k).z ((i : Int) - (ps k).at_).toNat := by simp only [laid]; rw [if_pos c]
    rw [if_pos (by omega), e1, bytesOf_at _ _ _ (by omega)]
    congr 3; omega
  · have e1 : laid ps (k + 1) i = laid ps k i := by simp only [laid]; rw [if_neg c]
    rw [if_neg (by omega), e1]
    exact h.2 i hi
theorem BArr.set_ {C : List Value} {S : Nat} {f : Nat → Int} (h : BArr C S f) (j : Nat) (hj : j < S) (x : Int) : BArr (C.set j (.int .u8 x)) S (fun i => if i = j then x else f i) := by
  refine ⟨by rw [List.length_set, h.1], fun i hi => ?_⟩
  rw [List.getElem?_set]
  by_cases e : j = i
  · subst e; simp [h.1, hj]
  · rw [if_neg e, h.2 i hi]; simp [show ¬ i = j from fun h => e h.symm]
/-- The bytes when j bytes of a piece have been laid. -/
def laidTo (f : Nat → Int) (p : Pc) (j : Nat) (i : Nat) : Int := if p.at_ ≤ i ∧ (i : Int) < p.at_ + j then p.z ((i : Int) - p.at_).toNat else f i
theorem laidTo_all (ps : Nat → Pc) (k : Nat) : laidTo (laid ps k) (ps k) (ps k).n = laid ps (k + 1) := rfl
theorem laidTo_zero (f : Nat → Int) (p : Pc) : laidTo f p 0 = f := by
  funext i
  unfold laidTo
  rw [if_neg (by omega)]
theorem BArr.step {C : List Value} {S : Nat} {f : Nat → Int} {p : Pc} {j off : Nat} (h : BArr C S (laidTo f p j)) (e : p.at_ = off) (hj : off + j < S) : BArr (C.set (off + j) (.int .u8 (p.z j))) S (laidTo f p (j + 1)) := by
  refine (h.set_ (off + j) hj (p.z j)).congr fun i hi => ?_
  unfold laidTo
  rw [e]
  by_cases c : i = off + j
  · subst c
    rw [if_pos rfl, if_pos (by omega)]
    congr 1; omega
  · rw [if_neg c]
    by_cases d : (off : Int) ≤ i ∧ (i : Int) < off + j
    · rw [if_pos d, if_pos (by omega)]
    · rw [if_neg d, if_neg (by omega)]
/-- The first piece that doesn't lie within. -/
theorem first_bad (S : Int) (ps : Nat → Pc) (m : Nat) : (∀ i, i < m → good S (ps i)) ∨ ∃ j, j < m ∧ ¬ good S (ps j) ∧ ∀ i, i < j → good S (ps i) := by
  induction m with
  | zero => exact Or.inl fun i hi => absurd hi (by omega)
  | succ m ih =>
    rcases ih with h | ⟨j, a, b, c⟩
    · by_cases g : good S (ps m)
      · exact Or.inl fun i hi => by
          rcases Nat.lt_or_ge i m with h1 | h1
          · exact h i h1
          · rw [show i = m by omega]; exact g
      · exact Or.inr ⟨m, by omega, g, h⟩
    · exact Or.inr ⟨j, by omega, b, c⟩
end Go.Proofs.YtnhnphifhkkboaaDoor
