/-
  Texts of these proofs, one behind the other: Cart8.
-/
import Derived.Test.YtdfjpdcnjjgljaaKMT16
import Derived.Test.YtdfjpdcnjjgljaaKMT26
import Derived.ScopeJumps
import Derived.WalkMore
import Derived.WalkArith
import Derived.Test.YtdfjpdcnjjgljaaKMT01
namespace Go.Proofs.Ytdfjpdcnjjgljaa
open Go.RowKit
set_option linter.unusedVariables false
theorem IRow.cut {w : World} {k : IntKind} {A : Option Addr} {n e c : Nat} {z : Nat → Int} (h : IRow w k A n z) (he : e ≤ n) (hc : n ≤ c) : IRow w k (if c = e then A else A.map (·.add e)) (n - e) (fun j => z (e + j)) := fun j hj => by
  obtain ⟨ad, rfl, hl, hcell, hw⟩ := h (e + j) (by omega)
  rw [if_neg (by omega)]
  exact ⟨ad.add e, rfl, by rw [block_of_add]; exact hl, by rw [add_of_add]; exact hcell, hw⟩
theorem IRow.less {w : World} {k : IntKind} {A : Option Addr} {n m : Nat} {z : Nat → Int} (h : IRow w k A n z) (hm : m ≤ n) : IRow w k A m z := fun j hj => h j (by omega)
/-- A piece's bytes lie at the head of a block of bytes. -/
def PcB (w : World) (p : Pc) : Prop := ∃ g C, p.A = some ⟨g, 0, none⟩ ∧ Blk w g 5 C
theorem PcB.keep {w w' : World} {p : Pc} (h : PcB w p) (hb : Below w.heap.size w w') : PcB w' p := by
  obtain ⟨g, C, e, hC⟩ := h
  exact ⟨g, C, e, hC.below hb hC.lt⟩
theorem pc_grown {w w' : World} {p : Pc} {row : Option Nat} (h : PcOk w p) (hp : PcB w p) (gb : w.grownBy w' row) (hne : ∀ g C, Blk w g 5 C → some g ≠ row) : PcOk w' p ∧ PcB w' p := by
  obtain ⟨g, C, e, hC⟩ := hp
  refine ⟨⟨h.1, h.2.1, h.2.2.1, fun i hi => ?_⟩, g, C, e, hC.grown gb (hne g C hC)⟩
  obtain ⟨ad, e2, hl, hc, hw⟩ := h.2.2.2 i hi
  rw [e] at e2
  injection e2 with e2
  subst e2
  refine ⟨_, e, Nat.lt_of_lt_of_le hl gb.size, ?_, hw⟩
  rw [add_zero_block] at hc ⊢
  exact (World.cell?_of_block (gb.block g hC.lt (hne g C hC))).trans hc
/-- Pieces that are the rows L of the bytes z. -/
def PL (w : World) (z : Nat → Int) (L : List (Nat × Nat)) (ps : Nat → Pc) : Prop :=
  ∀ i, i < L.length → (ps i).at_ = ((L.getD i (0, 0)).1 : Int) ∧ (ps i).n = (L.getD i (0, 0)).2 ∧ (ps i).z = (fun j => z ((L.getD i (0, 0)).1 + j)) ∧ PcOk w (ps i) ∧ PcB w (ps i)
def cellsP (ps : Nat → Pc) (m : Nat) : List Value := (List.range m).flatMap fun i => [.int .i64 (ps i).at_, .slice (ps i).A (ps i).n (ps i).c]
theorem cellsP_succ (ps : Nat → Pc) (m : Nat) : cellsP ps (m + 1) = cellsP ps m ++ [.int .i64 (ps m).at_, .slice (ps m).A (ps m).n (ps m).c] := by
  unfold cellsP; rw [List.range_succ, List.flatMap_append]; simp
theorem cellsP_congr (ps qs : Nat → Pc) (m : Nat) (h : ∀ i, i < m → ps i = qs i) : cellsP ps m = cellsP qs m := by
  unfold cellsP
  induction m with
  | zero => rfl
  | succ m ih => rw [List.range_succ, List.flatMap_append, List.flatMap_append, ih fun i hi => h i (by omega)]; simp [h m (by omega)]
theorem piece_info : (Try.prog.info? 57).map (fun i => (i.zero, i.size, i.bytes)) = some (some (.agg #[.int .i64 0, .slice none 0 0]), 2, 32) := by kernel_rfl
theorem PL.keep {w w' : World} {z : Nat → Int} {L : List (Nat × Nat)} {ps : Nat → Pc} (h : PL w z L ps) (hb : Below w.heap.size w w') : PL w' z L ps := fun i hi => by
  obtain ⟨a, b, c, d, e⟩ := h i hi
  exact ⟨a, b, c, d.keep hb, e.keep hb⟩
theorem own_ne {w : World} {base e size n : Nat} {v : Value} {xs : List Value} (h : w.ownsRow base e size v n xs) (g : Nat) (t : TypeId) (cs : Array Value) (hb : Blk w g t cs) (hne : e ≠ t) : some g ≠ v.ownBlock := by
  rcases h.2 with ⟨rfl, _⟩ | ⟨g', cap, cur, rfl, _, hh, _⟩
  · simp [Value.ownBlock]
  · intro he
    have : g' = g := by simpa [Value.ownBlock] using he.symm
    subst this
    exact Blk.ne_ (t := e) hh hb hne rfl
theorem PL.add {w w' : World} {z : Nat → Int} {L : List (Nat × Nat)} {ps : Nat → Pc} {row : Option Nat} (h : PL w z L ps) (gb : w.grownBy w' row) (hne : ∀ g C, Blk w g 5 C → some g ≠ row) (p : Pc) (f d : Nat) (h1 : p.at_ = (f : Int)) (h2 : p.n = d) (h3 : p.z = fun j => z (f + j)) (ok : PcOk w p) (pb : PcB w p) :
    PL w' z (L ++ [(f, d)]) (fun i => if i < L.length then ps i else p) := fun i hi => by
  by_cases hl : i < L.length
  · obtain ⟨a, b, c, e, g⟩ := h i hl
    have k := pc_grown e g gb hne
    have eg : (L ++ [(f, d)]).getD i (0, 0) = L.getD i (0, 0) := by
      rw [List.getD_eq_getElem?_getD, List.getD_eq_getElem?_getD, List.getElem?_append_left hl]
    simp only [if_pos hl]
    rw [eg]
    exact ⟨a, b, c, k.1, k.2⟩
  · have k := pc_grown ok pb gb hne
    have il : i = L.length := by rw [List.length_append, List.length_singleton] at hi; omega
    have eg : (L ++ [(f, d)]).getD i (0, 0) = (f, d) := by
      rw [il, List.getD_eq_getElem?_getD]; simp
    simp only [if_neg hl]
    rw [eg]
    exact ⟨h1, h2, h3, k.1, k.2⟩
theorem slice_from (A : Option Addr) (n c e : Nat) (he : e ≤ n) (hc : n ≤ c) (W : World) : (Instr.slice 31 (.slice A n c) (some (.int .i64 (e : Int))) none none).run Try.prog W = .ok (.slice (if c = e then A else A.map (·.add e)) (n - e) (c - e)) W := by
  have hs : (sizeOf 5).run Try.prog W = .ok 1 W := by kernel_rfl
  have he' : Try.prog.elem 31 = 5 := by kernel_rfl
  rw [run_slice_l (P := Try.prog) W 31 A n c (by rw [he']; exact Try.underlying31) .i64 e (by omega) (by omega)]
  rw [he', hs]
  simp [Result.andThen, sliced]
/-- One round of the walk: from where the last piece ends. -/
def PJ (w : World) (A : Option Addr) (n c : Nat) (z : Nat → Int) (a' : Act) (w' : World) : Prop :=
  ∃ (e : Nat) (v : Value) (ps : Nat → Pc) (U4 : e ≤ n) (U5 : Below w.heap.size w w') (U6 : w'.ownsRow w.heap.size 57 2 v (runs z e).length (cellsP ps (runs z e).length)) (U7 : PL w' z (runs z e) ps) (U8 : e = 0 ∨ e = n ∨ z e = 0),
    ∃ u7 u8 u9 u10 u11 u12 u13 u14 u15 u16 u17 u18 u19 u20 u21 u22 u23 u24 u25 u26 u27 u28 u29 u30 u31 u32 u33 u34 u35 u36 u37 u38 : Value, a' = { tmps := #[.slice A n c, undef, .slice none 0 0, .int .i64 0, .int .i64 0, v, .int .i64 e, u7, u8, u9, u10, u11, u12, u13, u14, u15, u16, u17, u18, u19, u20, u21, u22, u23, u24, u25, u26, u27, u28, u29, u30, u31, u32, u33, u34, u35, u36, u37, u38], defers := [] }
theorem own_below {w w' : World} {base e size n : Nat} {v : Value} {xs : List Value} (h : w.ownsRow base e size v n xs) (hb : Below w.heap.size w w') : w'.ownsRow base e size v n xs :=
  h.kept (row := none) ⟨hb.os, hb.tape, hb.output, hb.size, fun i hi _ => hb.block i hi⟩ (by cases v.ownBlock <;> simp)
theorem runs_step {z : Nat → Int} {n e k1 k2 : Nat} (he : e ≤ n) (h1 : k1 ≤ n - e) (g1 : k2 ≤ n - (e + k1)) (hk2 : 0 < k2) (hb : e = 0 ∨ e = n ∨ z e = 0) (h2 : ∀ j, j < k1 → (z (e + j) == 0) = true) (g2 : ∀ j, j < k2 → (z (e + k1 + j) == 0) = false) :
    runs z (e + k1 + k2) = runs z e ++ [(e + k1, k2)] := by
  have z1 : runs z (e + k1) = runs z e := runs_zero z e (e + k1) (by omega) fun j a b => by
    have := h2 (j - e) (by omega)
    rw [show e + (j - e) = j by omega] at this
    simpa using this
  obtain ⟨d, rfl⟩ : ∃ d, k2 = d + 1 := ⟨k2 - 1, by omega⟩
  rw [runs_block z (e + k1) d ?_ ?_, z1]
  · by_cases h : k1 = 0
    · subst h
      have g0 := g2 0 (by omega)
      rcases hb with h | h | h
      · left; omega
      · omega
      · rw [show e + 0 + 0 = e by omega, h] at g0; cases g0
    · right
      have := h2 (k1 - 1) (by omega)
      rw [show e + (k1 - 1) = e + k1 - 1 by omega] at this
      simpa using this
  · intro j hj h
    have := g2 j hj
    rw [h] at this; cases this
theorem runs_end {z : Nat → Int} {n e k1 : Nat} (he : e ≤ n) (h1 : k1 ≤ n - e) (g1 : 0 ≤ n - (e + k1)) (hb : e = 0 ∨ e = n ∨ z e = 0) (h2 : ∀ j, j < k1 → (z (e + j) == 0) = true) (g3 : 0 < n - (e + k1) → (z (e + k1 + 0) == 0) = !false) (h3 : k1 < n - e → (z (e + k1) == 0) = !true) : runs z n = runs z e := by
  have hk : k1 = n - e := by
    rcases Nat.lt_or_ge k1 (n - e) with h | h
    · have a := h3 h
      have b := g3 (by omega)
      rw [Nat.add_zero, a] at b; cases b
    · omega
  exact runs_zero z e n he fun j a b => by
    have := h2 (j - e) (by omega)
    rw [show e + (j - e) = j by omega] at this
    simpa using this
theorem wp_scope_first {P : Program} {a : Act} {w : World} {Q : Exit → Act → World → Prop} {c rest : Code} (l : Nat) (J : Act → World → Prop) (μ : Act → World → Nat) (hf : findLabel c l = some (Code.skip.seq rest))
    (pass : ∀ a w, J a w → rest.wp P (Exit.jump l (fun a' w' => J a' w' ∧ μ a' w' < μ a w) Q) a w)
    (first : (∀ a w, J a w → rest.wp P (Exit.jump l J Q) a w) → c.wp P (Exit.jump l J Q) a w) : (Code.scope c).wp P Q a w :=
  wp_scope_jumps l J μ hf (first fun a w h => wp_mono (pass a w h) fun e a w hq => by
    cases e <;> first | exact hq | exact ⟨hq.1, hq.2.1⟩) fun a w h => wp_seq (wp_skip (pass a w h))
end Go.Proofs.Ytdfjpdcnjjgljaa
