/-
  Texts of these proofs, one behind the other: Cart8, Cart13, Cart14, Cart15, Cart16.
-/
import Derived.Test.YtngfmofjonleeaaGreatKEA06
import Derived.Test.YtngfmofjonleeaaGreatKEA25
import Derived.ScopeJumps
import Derived.WalkMore
import Derived.WalkArith
import Derived.Test.YtngfmofjonleeaaGreatKEA01
import Derived.StillTailTactics
import Derived.Deep.RegionLaw
import Derived.Deep.RegionHeld3
import Derived.Deep.DrawnRows
namespace Go.Proofs.YtngfmofjonleeaaGreat
open Go.RowKit
set_option linter.unusedVariables false
/-- A piece's bytes lie at the head of a block of bytes. -/
def PcB (w : World) (p : Pc) : Prop := ∃ g C, p.A = some ⟨g, 0, none⟩ ∧ Blk w g 5 C
theorem PcB.keep {w w' : World} {p : Pc} (h : PcB w p) (hb : Below w.heap.size w w') : PcB w' p := by
  obtain ⟨g, C, e, hC⟩ := h
  exact ⟨g, C, e, hC.below hb hC.lt⟩
theorem pc_grown {w w' : World} {p : Pc} {row : Option Nat} (h : PcOk w p) (hp : PcB w p) (gb : w.grownBy w' row) (hne : ∀ g C, Blk w g 5 C → some g ≠ row) : PcOk w' p ∧ PcB w' p := by
  obtain ⟨g, C, e, hC⟩ := hp
  refine ⟨⟨h.1, h.2.1, h.2.2.1, fun i hi => ?_⟩, g, C, e, hC.grown gb (hne g C hC)⟩
  obtain ⟨ad, e2, hl, hc, hw⟩ := h.2.2.2 i hi
  rw [e] at e2
  injection e2 with e2
  subst e2
  refine ⟨_, e, Nat.lt_of_lt_of_le hl gb.size, ?_, hw⟩
  rw [add_zero_block] at hc ⊢
  exact (World.cell?_of_block (gb.block g hC.lt (hne g C hC))).trans hc
/-- Pieces that are the rows L of the bytes z. -/
def PL (w : World) (z : Nat → Int) (L : List (Nat × Nat)) (ps : Nat → Pc) : Prop :=
  ∀ i, i < L.length → (ps i).at_ = ((L.getD i (0, 0)).1 : Int) ∧ (ps i).n = (L.getD i (0, 0)).2 ∧ (ps i).z = (fun j => z ((L.getD i (0, 0)).1 + j)) ∧ PcOk w (ps i) ∧ PcB w (ps i)
theorem PL.keep {w w' : World} {z : Nat → Int} {L : List (Nat × Nat)} {ps : Nat → Pc} (h : PL w z L ps) (hb : Below w.heap.size w w') : PL w' z L ps := fun i hi => by
  obtain ⟨a, b, c, d, e⟩ := h i hi
  exact ⟨a, b, c, d.keep hb, e.keep hb⟩
theorem PL.add {w w' : World} {z : Nat → Int} {L : List (Nat × Nat)} {ps : Nat → Pc} {row : Option Nat} (h : PL w z L ps) (gb : w.grownBy w' row) (hne : ∀ g C, Blk w g 5 C → some g ≠ row) (p : Pc) (f d : Nat) (h1 : p.at_ = (f : Int)) (h2 : p.n = d) (h3 : p.z = fun j => z (f + j)) (ok : PcOk w p) (pb : PcB w p) :
    PL w' z (L ++ [(f, d)]) (fun i => if i < L.length then ps i else p) := fun i hi => by
  by_cases hl : i < L.length
  · obtain ⟨a, b, c, e, g⟩ := h i hl
    have k := pc_grown e g gb hne
    have eg : (L ++ [(f, d)]).getD i (0, 0) = L.getD i (0, 0) := by
      rw [List.getD_eq_getElem?_getD, List.getD_eq_getElem?_getD, List.getElem?_append_left hl]
    simp only [if_pos hl]
    rw [eg]
    exact ⟨a, b, c, k.1, k.2⟩
  · have k := pc_grown ok pb gb hne
    have il : i = L.length := by rw [List.length_append, List.length_singleton] at hi; omega
    have eg : (L ++ [(f, d)]).getD i (0, 0) = (f, d) := by
      rw [il, List.getD_eq_getElem?_getD]; simp
    simp only [if_neg hl]
    rw [eg]
    exact ⟨h1, h2, h3, k.1, k.2⟩
end Go.Proofs.YtngfmofjonleeaaGreat
namespace Go.Proofs.YtngfmofjonleeaaGreat
open Go.RowKit
set_option linter.unusedVariables false
/-- A piece's bytes lie in a row of the call's own. -/
def RowB (w : World) (B : Nat) (p : Pc) : Prop := ∃ g, p.A = some ⟨g, 0, none⟩ ∧ w.ownsRow B 5 1 (.slice (some ⟨g, 0, none⟩) p.n p.c) p.n (bytesOf p.z p.n)
theorem RowB.alloc {w : World} {B : Nat} {p : Pc} (h : RowB w B p) (o : Obj) : RowB (w.alloc o) B p := by
  obtain ⟨g, a, b⟩ := h
  exact ⟨g, a, b.alloc o⟩
theorem RowB.grown {w w' : World} {B : Nat} {p : Pc} {row : Option Nat} (h : RowB w B p) (gb : w.grownBy w' row) (hne : ∀ g, p.A = some ⟨g, 0, none⟩ → some g ≠ row) : RowB w' B p := by
  obtain ⟨g, a, b⟩ := h
  exact ⟨g, a, b.kept gb (Or.inr (hne g a))⟩
theorem own_type {w : World} {base e size n c g : Nat} {xs : List Value} (h : w.ownsRow base e size (.slice (some ⟨g, 0, none⟩) n c) n xs) : ∃ cs, Blk w g e cs := by
  rcases h.2 with ⟨h, _⟩ | ⟨g', cap, cur, he, _, hh, _⟩
  · cases h
  · injection he with e1 _ _
    rw [Option.some.injEq, Addr.mk.injEq] at e1
    rw [e1.1]; exact ⟨cur, hh⟩
def PQ (w : World) (B : Nat) (z : Nat → Int) (L : List (Nat × Nat)) (ps : Nat → Pc) : Prop :=
  ∀ i, i < L.length → (ps i).at_ = ((L.getD i (0, 0)).1 : Int) ∧ (ps i).n = (L.getD i (0, 0)).2 ∧ (ps i).z = (fun j => z ((L.getD i (0, 0)).1 + j)) ∧ (Lit.int .i64 (ps i).at_).wf = true ∧ RowB w B (ps i)
theorem RowB.ok {w : World} {B : Nat} {p : Pc} (h : RowB w B p) (hw : (Lit.int .i64 p.at_).wf = true) (hz : ∀ j, j < p.n → (Lit.int .u8 (p.z j)).wf = true) : PcOk w p ∧ PcB w p := by
  obtain ⟨g, a, b⟩ := h
  obtain ⟨cs, hb⟩ := own_type b
  have hlt : g < w.heap.size := (b.lt g rfl).2
  have hc : p.n ≤ p.c ∧ p.c ≤ maxLen := by
    rcases b.2 with ⟨h, _⟩ | ⟨g', cap, cur, he, _, _, hnc, hcm, _⟩
    · cases h
    · injection he with _ _ e3
      rw [e3]; exact ⟨hnc, hcm⟩
  refine ⟨⟨hw, hc.1, hc.2, fun i hi => ⟨_, a, hlt, b.cells (g := g) rfl i _ (bytesOf_at p.z p.n i hi), hz i hi⟩⟩, g, cs, a, hb⟩
theorem getD_left (L : List (Nat × Nat)) (x : Nat × Nat) (i : Nat) (h : i < L.length) : (L ++ [x]).getD i (0, 0) = L.getD i (0, 0) := by
  rw [List.getD_eq_getElem?_getD, List.getD_eq_getElem?_getD, List.getElem?_append_left h]
theorem getD_last (L : List (Nat × Nat)) (x : Nat × Nat) : (L ++ [x]).getD L.length (0, 0) = x := by
  rw [List.getD_eq_getElem?_getD]; simp
theorem PQ.new {w w' : World} {B : Nat} {z : Nat → Int} {L : List (Nat × Nat)} {ps : Nat → Pc} {row : Option Nat} (h : PQ w B z L ps) (gb : w.grownBy w' row) (hne : ∀ g cs, Blk w g 5 cs → some g ≠ row) (p : Pc) (f : Nat) (h1 : p.at_ = (f : Int)) (h2 : p.n = 1) (h3 : p.z = fun j => z (f + j)) (hw : (Lit.int .i64 p.at_).wf = true) (hp : RowB w B p) :
    PQ w' B z (L ++ [(f, 1)]) (fun i => if i < L.length then ps i else p) := fun i hi => by
  have key : ∀ q : Pc, RowB w B q → RowB w' B q := fun q hq => hq.grown gb fun g e => by
    obtain ⟨g', e', b⟩ := hq
    rw [e] at e'
    injection e' with e'
    rw [Addr.mk.injEq] at e'
    obtain ⟨cs, hb⟩ := own_type b
    rw [e'.1]
    exact hne g' cs hb
  by_cases hl : i < L.length
  · obtain ⟨a, b, c, d, e⟩ := h i hl
    simp only [if_pos hl]
    rw [getD_left L _ i hl]
    exact ⟨a, b, c, d, key _ e⟩
  · have il : i = L.length := by rw [List.length_append, List.length_singleton] at hi; omega
    simp only [if_neg hl]
    rw [il, getD_last]
    exact ⟨h1, h2, h3, hw, key _ hp⟩
theorem PQ.lt {w : World} {B : Nat} {z : Nat → Int} {L : List (Nat × Nat)} {ps : Nat → Pc} (h : PQ w B z L ps) (i : Nat) (hi : i < L.length) : ∃ g, (ps i).A = some ⟨g, 0, none⟩ ∧ g < w.heap.size := by
  obtain ⟨_, _, _, _, g, e, b⟩ := h i hi
  exact ⟨g, e, (b.lt g rfl).2⟩
theorem PQ.alloc {w : World} {B : Nat} {z : Nat → Int} {L : List (Nat × Nat)} {ps : Nat → Pc} (h : PQ w B z L ps) (o : Obj) : PQ (w.alloc o) B z L ps := fun i hi => by
  obtain ⟨a, b, c, d, e⟩ := h i hi
  exact ⟨a, b, c, d, e.alloc o⟩
end Go.Proofs.YtngfmofjonleeaaGreat
namespace Go.Proofs.YtngfmofjonleeaaGreat
open Go.RowKit
set_option linter.unusedVariables false
attribute [local go_sem ↓] Go.wp_at_zero Go.wp_at_succ
end Go.Proofs.YtngfmofjonleeaaGreat
namespace Go.Proofs.YtngfmofjonleeaaGreat
open Go.RowKit
set_option linter.unusedVariables false
end Go.Proofs.YtngfmofjonleeaaGreat
namespace Go.Proofs.YtngfmofjonleeaaGreat
open Go.RowKit
set_option linter.unusedVariables false
end Go.Proofs.YtngfmofjonleeaaGreat
