/-
  Texts of these proofs, one behind the other: Cart13.
-/
import Derived.Test.YtdfjpdcnjjgljaaKMT27
import Derived.StillTailTactics
namespace Go.Proofs.Ytdfjpdcnjjgljaa
open Go.RowKit
set_option linter.unusedVariables false
theorem runs_last (z : Nat → Int) (i : Nat) (hi : 0 < i) (hz : z (i - 1) ≠ 0) : ∃ L f d, runs z i = L ++ [(f, d)] ∧ f + d = i ∧ 0 < d := by
  induction i with
  | zero => omega
  | succ i ih =>
    rw [Nat.add_sub_cancel] at hz
    rw [runs_succ, if_neg hz]
    by_cases c : 0 < i ∧ z (i - 1) ≠ 0
    · obtain ⟨L, f, d, e, h1, h2⟩ := ih c.1 c.2
      rw [if_pos c, e]
      exact ⟨L, f, d + 1, by simp, by omega, by omega⟩
    · rw [if_neg c]; exact ⟨_, i, 1, rfl, rfl, by omega⟩
theorem runs_more (z : Nat → Int) (i : Nat) (hi : 0 < i) (hz : z (i - 1) ≠ 0) (hz2 : z i ≠ 0) {L : List (Nat × Nat)} {f d : Nat} (e : runs z i = L ++ [(f, d)]) : runs z (i + 1) = L ++ [(f, d + 1)] := by
  rw [runs_succ, if_neg hz2, if_pos ⟨hi, hz⟩, e]; simp
theorem runs_new (z : Nat → Int) (i : Nat) (hz : i = 0 ∨ z (i - 1) = 0) (hz2 : z i ≠ 0) : runs z (i + 1) = runs z i ++ [(i, 1)] := by
  rw [runs_succ, if_neg hz2, if_neg (by rintro ⟨a, b⟩; rcases hz with h | h; omega; exact b h)]
/-- A piece's bytes lie in a row of the call's own. -/
def RowB (w : World) (B : Nat) (p : Pc) : Prop := ∃ g, p.A = some ⟨g, 0, none⟩ ∧ w.ownsRow B 5 1 (.slice (some ⟨g, 0, none⟩) p.n p.c) p.n (bytesOf p.z p.n)
theorem RowB.alloc {w : World} {B : Nat} {p : Pc} (h : RowB w B p) (o : Obj) : RowB (w.alloc o) B p := by
  obtain ⟨g, a, b⟩ := h
  exact ⟨g, a, b.alloc o⟩
theorem RowB.grown {w w' : World} {B : Nat} {p : Pc} {row : Option Nat} (h : RowB w B p) (gb : w.grownBy w' row) (hne : ∀ g, p.A = some ⟨g, 0, none⟩ → some g ≠ row) : RowB w' B p := by
  obtain ⟨g, a, b⟩ := h
  exact ⟨g, a, b.kept gb (Or.inr (hne g a))⟩
theorem own_type {w : World} {base e size n c g : Nat} {xs : List Value} (h : w.ownsRow base e size (.slice (some ⟨g, 0, none⟩) n c) n xs) : ∃ cs, Blk w g e cs := by
  rcases h.2 with ⟨h, _⟩ | ⟨g', cap, cur, he, _, hh, _⟩
  · cases h
  · injection he with e1 _ _
    rw [Option.some.injEq, Addr.mk.injEq] at e1
    rw [e1.1]; exact ⟨cur, hh⟩
def PQ (w : World) (B : Nat) (z : Nat → Int) (L : List (Nat × Nat)) (ps : Nat → Pc) : Prop :=
  ∀ i, i < L.length → (ps i).at_ = ((L.getD i (0, 0)).1 : Int) ∧ (ps i).n = (L.getD i (0, 0)).2 ∧ (ps i).z = (fun j => z ((L.getD i (0, 0)).1 + j)) ∧ (Lit.int .i64 (ps i).at_).wf = true ∧ RowB w B (ps i)
def Dist (ps : Nat → Pc) (m : Nat) : Prop := ∀ j, j + 1 < m → (ps j).A ≠ (ps (m - 1)).A
theorem RowB.ok {w : World} {B : Nat} {p : Pc} (h : RowB w B p) (hw : (Lit.int .i64 p.at_).wf = true) (hz : ∀ j, j < p.n → (Lit.int .u8 (p.z j)).wf = true) : PcOk w p ∧ PcB w p := by
  obtain ⟨g, a, b⟩ := h
  obtain ⟨cs, hb⟩ := own_type b
  have hlt : g < w.heap.size := (b.lt g rfl).2
  have hc : p.n ≤ p.c ∧ p.c ≤ maxLen := by
    rcases b.2 with ⟨h, _⟩ | ⟨g', cap, cur, he, _, _, hnc, hcm, _⟩
    · cases h
    · injection he with _ _ e3
      rw [e3]; exact ⟨hnc, hcm⟩
  refine ⟨⟨hw, hc.1, hc.2, fun i hi => ⟨_, a, hlt, b.cells (g := g) rfl i _ (bytesOf_at p.z p.n i hi), hz i hi⟩⟩, g, cs, a, hb⟩
theorem PQ.pl {w : World} {B : Nat} {z : Nat → Int} {L : List (Nat × Nat)} {ps : Nat → Pc} (h : PQ w B z L ps) (hz : ∀ i, i < L.length → ∀ j, j < (L.getD i (0, 0)).2 → (Lit.int .u8 (z ((L.getD i (0, 0)).1 + j))).wf = true) : PL w z L ps := fun i hi => by
  obtain ⟨a, b, c, d, e⟩ := h i hi
  have := e.ok d (fun j hj => by rw [c]; exact hz i hi j (by rw [← b]; exact hj))
  exact ⟨a, b, c, this.1, this.2⟩
theorem getD_left (L : List (Nat × Nat)) (x : Nat × Nat) (i : Nat) (h : i < L.length) : (L ++ [x]).getD i (0, 0) = L.getD i (0, 0) := by
  rw [List.getD_eq_getElem?_getD, List.getD_eq_getElem?_getD, List.getElem?_append_left h]
theorem getD_last (L : List (Nat × Nat)) (x : Nat × Nat) : (L ++ [x]).getD L.length (0, 0) = x := by
  rw [List.getD_eq_getElem?_getD]; simp
theorem PQ.new {w w' : World} {B : Nat} {z : Nat → Int} {L : List (Nat × Nat)} {ps : Nat → Pc} {row : Option Nat} (h : PQ w B z L ps) (gb : w.grownBy w' row) (hne : ∀ g cs, Blk w g 5 cs → some g ≠ row) (p : Pc) (f : Nat) (h1 : p.at_ = (f : Int)) (h2 : p.n = 1) (h3 : p.z = fun j => z (f + j)) (hw : (Lit.int .i64 p.at_).wf = true) (hp : RowB w B p) :
    PQ w' B z (L ++ [(f, 1)]) (fun i => if i < L.length then ps i else p) := fun i hi => by
  have key : ∀ q : Pc, RowB w B q → RowB w' B q := fun q hq => hq.grown gb fun g e => by
    obtain ⟨g', e', b⟩ := hq
    rw [e] at e'
    injection e' with e'
    rw [Addr.mk.injEq] at e'
    obtain ⟨cs, hb⟩ := own_type b
    rw [e'.1]
    exact hne g' cs hb
  by_cases hl : i < L.length
  · obtain ⟨a, b, c, d, e⟩ := h i hl
    simp only [if_pos hl]
    rw [getD_left L _ i hl]
    exact ⟨a, b, c, d, key _ e⟩
  · have il : i = L.length := by rw [List.length_append, List.length_singleton] at hi; omega
    simp only [if_neg hl]
    rw [il, getD_last]
    exact ⟨h1, h2, h3, hw, key _ hp⟩
theorem PQ.upd {w w2 w3 : World} {B go gq : Nat} {z : Nat → Int} {L : List (Nat × Nat)} {f d : Nat} {ps : Nat → Pc} (h : PQ w B z (L ++ [(f, d)]) ps) (hd : Dist ps (L.length + 1)) (hq : (ps L.length).A = some ⟨gq, 0, none⟩)
    (gb1 : w.grownBy w2 (some gq)) (gb2 : w2.grownBy w3 (some go)) (hne : ∀ g cs, Blk w2 g 5 cs → g ≠ go) (p : Pc) (h1 : p.at_ = (f : Int)) (h2 : p.n = d + 1) (h3 : p.z = fun j => z (f + j)) (hp : RowB w2 B p) :
    PQ w3 B z (L ++ [(f, d + 1)]) (fun i => if i < L.length then ps i else p) := fun i hi => by
  have key : ∀ q : Pc, RowB w2 B q → RowB w3 B q := fun q hq => hq.grown gb2 fun g e => by
    obtain ⟨g', e', b⟩ := hq
    rw [e] at e'
    injection e' with e'
    rw [Addr.mk.injEq] at e'
    obtain ⟨cs, hb⟩ := own_type b
    rw [e'.1]
    intro h
    injection h with h
    exact hne g' cs hb h
  by_cases hl : i < L.length
  · obtain ⟨a, b, c, e, r⟩ := h i (by simp; omega)
    simp only [if_pos hl]
    rw [getD_left L _ i hl] at a b c ⊢
    refine ⟨a, b, c, e, key _ (r.grown gb1 fun g eg hgq => ?_)⟩
    injection hgq with hgq
    subst hgq
    exact hd i (by omega) (by rw [eg, Nat.add_sub_cancel, hq])
  · have il : i = L.length := by rw [List.length_append, List.length_singleton] at hi; omega
    obtain ⟨a, b, c, e, r⟩ := h L.length (by simp)
    rw [getD_last] at a
    simp only [if_neg hl]
    rw [il, getD_last]
    exact ⟨h1, h2, h3, by rw [h1, ← a]; exact e, key _ hp⟩
theorem cellsP_len (ps : Nat → Pc) (m : Nat) : (cellsP ps m).length = m * 2 := by
  induction m with
  | zero => rfl
  | succ m ih => rw [cellsP_succ, List.length_append, ih]; simp; omega
theorem cellsP_set (ps : Nat → Pc) (m : Nat) (p : Pc) (h : p.at_ = (ps m).at_) : (cellsP ps (m + 1)).set (m * 2 + 1) (.slice p.A p.n p.c) = cellsP (fun i => if i < m then ps i else p) (m + 1) := by
  have hl := cellsP_len ps m
  have h2 : cellsP (fun i => if i < m then ps i else p) (m + 1) = cellsP ps m ++ [.int .i64 (ps m).at_, .slice p.A p.n p.c] := by
    rw [cellsP_succ, cellsP_congr (fun i => if i < m then ps i else p) ps m (fun i hi => if_pos hi)]
    simp [h]
  rw [h2, cellsP_succ, List.set_append, if_neg (by omega), hl, show m * 2 + 1 - m * 2 = 1 by omega]
  rfl
theorem one_own {w : World} {B : Nat} {z : Nat → Int} {i : Nat} (hB : B ≤ w.heap.size) : (w.alloc (.cells #[.int .u8 (z i)] 5)).ownsRow B 5 1 (.slice (some ⟨w.heap.size, 0, none⟩) 1 1) 1 (bytesOf (fun j => z (i + j)) 1) :=
  ⟨rfl, Or.inr ⟨w.heap.size, 1, #[.int .u8 (z i)], rfl, hB, heap_alloc_new w _, Nat.le_refl _, by unfold maxLen; omega, rfl, rfl⟩⟩
theorem PQ.lt {w : World} {B : Nat} {z : Nat → Int} {L : List (Nat × Nat)} {ps : Nat → Pc} (h : PQ w B z L ps) (i : Nat) (hi : i < L.length) : ∃ g, (ps i).A = some ⟨g, 0, none⟩ ∧ g < w.heap.size := by
  obtain ⟨_, _, _, _, g, e, b⟩ := h i hi
  exact ⟨g, e, (b.lt g rfl).2⟩
theorem PQ.alloc {w : World} {B : Nat} {z : Nat → Int} {L : List (Nat × Nat)} {ps : Nat → Pc} (h : PQ w B z L ps) (o : Obj) : PQ (w.alloc o) B z L ps := fun i hi => by
  obtain ⟨a, b, c, d, e⟩ := h i hi
  exact ⟨a, b, c, d, e.alloc o⟩
end Go.Proofs.Ytdfjpdcnjjgljaa
