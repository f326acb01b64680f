/-
  Texts of these proofs, one behind the other: Cart14, Cart15, Cart16.
-/
import Derived.Test.YtdfjpdcnjjgljaaKMT39
import Derived.WalkMore
import Derived.WalkArith
import Derived.Deep.RegionLaw
import Derived.Deep.RegionHeld3
import Derived.Deep.DrawnRows
import Derived.Test.YtdfjpdcnjjgljaaKMT26
import Derived.StillTailTactics
namespace Go.Proofs.Ytdfjpdcnjjgljaa
open Go.RowKit
set_option linter.unusedVariables false
attribute [local go_sem ↓] Go.wp_at_zero Go.wp_at_succ
/-- At a step of a region that draws its order: a built-in append whose run is known. -/
theorem step_append_run {P : Program} {w w' : World} {ops : Array Oper} {o : Oper} {a : Act} {K : Act → World → Prop} {Q : Exit → Act → World → Prop} {E : Prop} (hgd : o.guard = none) (s x : Operand) (t : TypeId)
    (ho : o.op = .call { callee := .builtin .append, args := #[s, x], argTypes := #[t, t] }) {v u v' : Value} (hs : a.eval s = v) (hx : a.eval x = u)
    (hrun : (Builtin.append_ #[t, t] o.type #[v, u]).run P w = .ok v' w') (h : K (a.put o.dst v') w') :
    if Region.wanted o (yielded ops a.tmps) = true then Oper.wp P o a w K Q else E := by
  have hw : Region.wanted o (yielded ops a.tmps) = true := by simp [Region.wanted, hgd]
  rw [if_pos hw]
  unfold Oper.wp execOp
  simp only [ho, resolve, invoke, builtin, Sem.run_bind, Sem.run_pure, Result.andThen_ok, List.map_toArray, List.map_cons, List.map_nil, hs, hx, hrun]
  exact h
theorem runs_in (z : Nat → Int) (i : Nat) : ∀ x ∈ runs z i, x.1 + x.2 ≤ i := by
  induction i with
  | zero => intro x hx; simp [runs] at hx
  | succ i ih =>
    rw [runs_succ]
    by_cases h : z i = 0
    · rw [if_pos h]; intro x hx; have := ih x hx; omega
    · rw [if_neg h]
      by_cases c : 0 < i ∧ z (i - 1) ≠ 0
      · obtain ⟨L, f, d, e, h1, h2⟩ := runs_last z i c.1 c.2
        rw [if_pos c, e]
        rw [e] at ih
        intro x hx
        simp only [List.dropLast_concat, List.getLastD_concat, List.mem_append, List.mem_singleton] at hx
        rcases hx with hx | rfl
        · have := ih x (by simp [hx]); omega
        · show f + (d + 1) ≤ i + 1; omega
      · rw [if_neg c]
        intro x hx
        simp only [List.mem_append, List.mem_singleton] at hx
        rcases hx with hx | rfl
        · have := ih x hx; omega
        · exact Nat.le_refl _
theorem runs_at (z : Nat → Int) (n i : Nat) (h : i < (runs z n).length) : ((runs z n).getD i (0, 0)).1 + ((runs z n).getD i (0, 0)).2 ≤ n :=
  runs_in z n _ (by rw [List.getD_eq_getElem?_getD, List.getElem?_eq_getElem h]; simp)
theorem own_slice {w : World} {base e size n : Nat} {v : Value} {xs : List Value} (h : w.ownsRow base e size v n xs) (hn : 0 < n) : ∃ g cap, v = .slice (some ⟨g, 0, none⟩) n cap ∧ n ≤ cap ∧ cap ≤ maxLen ∧ base ≤ g ∧ g < w.heap.size ∧ ∃ cs, Blk w g e cs := by
  rcases h.2 with ⟨_, h⟩ | ⟨g', cap, cur, he, hb, hh, h1, h2, _⟩
  · omega
  · exact ⟨g', cap, he, h1, h2, hb, (Array.getElem?_eq_some_iff.1 hh).1, cur, hh⟩
/-- A byte laid behind a piece's own row. -/
theorem byte_more {w : World} {B : Nat} {n : Nat} {v : Value} {xs : List Value} (h : w.ownsRow B 5 1 v n xs) (hn : n ≤ 1048576) (hB : B ≤ w.heap.size) (b : Int) :
    ∃ v' w', (Builtin.append_ #[31, 31] 31 #[v, .slice (some ⟨w.heap.size, 0, none⟩) 1 1]).run Try.prog (w.alloc (.cells #[.int .u8 b] 5)) = .ok v' w' ∧ w'.ownsRow B 5 1 v' (n + 1) (xs ++ [.int .u8 b]) ∧ (w.alloc (.cells #[.int .u8 b] 5)).grownBy w' v.ownBlock ∧ (v'.ownBlock = v.ownBlock ∨ v'.ownBlock = some (w.heap.size + 1)) := by
  obtain ⟨i, hi, hzz⟩ := Option.map_eq_some_iff.1 u8_info'
  simp only [Prod.mk.injEq] at hzz
  obtain ⟨hz, hs, hb⟩ := hzz
  obtain ⟨v', w', h1, h2, h3, _, h5⟩ := run_append_own_at (P := Try.prog) (w.alloc (.cells #[.int .u8 b] 5)) B 31 31 5 i (.int .u8 0) 1 1 Try.underlying31 hi hz hs hb rfl (by omega) v n xs (h.alloc _) ⟨w.heap.size, 0, none⟩ 1 1 [.int .u8 b] rfl
    (fun j u hu => by
      rw [add_zero_block, cell_of_row _ _ j _ 5 (0, 0) (heap_alloc_new w _)]
      simpa using hu)
    (by simp [Value.oneCell']) (by unfold maxLen; omega) (by omega) (by simp; omega)
  exact ⟨v', w', h1, h2, h3, by simpa using h5⟩
theorem cellsP_at (ps : Nat → Pc) (m i : Nat) (h : i < m) : (cellsP ps m)[i * 2]? = some (.int .i64 (ps i).at_) ∧ (cellsP ps m)[i * 2 + 1]? = some (.slice (ps i).A (ps i).n (ps i).c) := by
  induction m with
  | zero => omega
  | succ m ih =>
    have hl := cellsP_len ps m
    rw [cellsP_succ]
    rcases Nat.lt_or_ge i m with hi | hi
    · rw [List.getElem?_append_left (by omega), List.getElem?_append_left (by omega)]
      exact ih hi
    · obtain rfl : i = m := by omega
      rw [List.getElem?_append_right (by omega), List.getElem?_append_right (by omega), hl, show i * 2 - i * 2 = 0 by omega, show i * 2 + 1 - i * 2 = 1 by omega]
      exact ⟨rfl, rfl⟩
end Go.Proofs.Ytdfjpdcnjjgljaa
namespace Go.Proofs.Ytdfjpdcnjjgljaa
open Go.RowKit
set_option linter.unusedVariables false
/-- The pieces of a row of the call's own. -/
theorem prow_own {w : World} {B g m cap : Nat} {z : Nat → Int} {L : List (Nat × Nat)} {ps : Nat → Pc} (h : w.ownsRow B 57 2 (.slice (some ⟨g, 0, none⟩) m cap) m (cellsP ps m)) (hm : m = L.length) (hP : PL w z L ps) : PRow w (some ⟨g, 0, none⟩) m ps := fun i hi => by
  have hc := cellsP_at ps m i hi
  obtain ⟨_, _, _, ok, _⟩ := hP i (by omega)
  refine ⟨_, rfl, (h.lt g rfl).2, h.cells (g := g) rfl _ _ hc.1, h.cells (g := g) rfl _ _ hc.2, ok⟩
end Go.Proofs.Ytdfjpdcnjjgljaa
namespace Go.Proofs.Ytdfjpdcnjjgljaa
open Go.RowKit
set_option linter.unusedVariables false
theorem runs_cover (z : Nat → Int) (n : Nat) : ∀ i, i < n → z i ≠ 0 → ∃ x ∈ runs z n, x.1 ≤ i ∧ i < x.1 + x.2 := by
  induction n with
  | zero => intro i hi; omega
  | succ n ih =>
    intro i hi hz
    by_cases h : z n = 0
    · rw [runs_succ, if_pos h]
      have : i ≠ n := fun e => hz (by rw [e]; exact h)
      exact ih i (by omega) hz
    · by_cases c : 0 < n ∧ z (n - 1) ≠ 0
      · obtain ⟨L, f, d, e, h1, h2⟩ := runs_last z n c.1 c.2
        rw [runs_more z n c.1 c.2 h e]
        rw [e] at ih
        rcases Nat.lt_or_ge i n with hl | hl
        · obtain ⟨x, hx, x1, x2⟩ := ih i hl hz
          simp only [List.mem_append, List.mem_singleton] at hx
          rcases hx with hx | rfl
          · exact ⟨x, by simp [hx], x1, x2⟩
          · exact ⟨(f, d + 1), by simp, x1, by show i < f + (d + 1); have : i < f + d := x2; omega⟩
        · exact ⟨(f, d + 1), by simp, by show f ≤ i; omega, by show i < f + (d + 1); omega⟩
      · rw [runs_new z n (by
          by_cases h0 : n = 0
          · exact Or.inl h0
          · right
            rcases Decidable.em (z (n - 1) = 0) with k | k
            · exact k
            · exact absurd ⟨by omega, k⟩ c) h]
        rcases Nat.lt_or_ge i n with hl | hl
        · obtain ⟨x, hx, x1, x2⟩ := ih i hl hz
          exact ⟨x, by simp [hx], x1, x2⟩
        · exact ⟨(n, 1), by simp, hl, by show i < n + 1; exact hi⟩
theorem laid_or (ps : Nat → Pc) (k i : Nat) : (∃ q, q < k ∧ (ps q).at_ ≤ i ∧ (i : Int) < (ps q).at_ + (ps q).n ∧ laid ps k i = (ps q).z ((i : Int) - (ps q).at_).toNat) ∨ ((∀ q, q < k → ¬ ((ps q).at_ ≤ i ∧ (i : Int) < (ps q).at_ + (ps q).n)) ∧ laid ps k i = 0) := by
  induction k with
  | zero => exact Or.inr ⟨fun q hq => by omega, rfl⟩
  | succ k ih =>
    by_cases c : (ps k).at_ ≤ i ∧ (i : Int) < (ps k).at_ + (ps k).n
    · left
      exact ⟨k, by omega, c.1, c.2, by simp only [laid]; rw [if_pos c]⟩
    · have e : laid ps (k + 1) i = laid ps k i := by simp only [laid]; rw [if_neg c]
      rcases ih with ⟨q, hq, a, b, h⟩ | ⟨h1, h2⟩
      · exact Or.inl ⟨q, by omega, a, b, by rw [e, h]⟩
      · exact Or.inr ⟨fun q hq => by
          rcases Nat.lt_or_ge q k with h | h
          · exact h1 q h
          · rw [show q = k by omega]; exact c, by rw [e, h2]⟩
theorem laid_runs {w : World} {z : Nat → Int} {n : Nat} {ps : Nat → Pc} (h : PL w z (runs z n) ps) (i : Nat) (hi : i < n) : laid ps (runs z n).length i = z i := by
  rcases laid_or ps (runs z n).length i with ⟨q, hq, a, b, e⟩ | ⟨h1, h2⟩
  · obtain ⟨p1, p2, p3, _, _⟩ := h q hq
    rw [e, p3, p1]
    rw [p1] at a b
    show z _ = z i
    congr 1
    omega
  · rw [h2]
    rcases Decidable.em (z i = 0) with k | k
    · exact k.symm
    · exfalso
      obtain ⟨x, hx, x1, x2⟩ := runs_cover z n i hi k
      obtain ⟨q, hq, rfl⟩ := List.getElem_of_mem hx
      obtain ⟨p1, p2, _, _, _⟩ := h q hq
      have eg : (runs z n).getD q (0, 0) = (runs z n)[q] := by rw [List.getD_eq_getElem?_getD, List.getElem?_eq_getElem hq]; rfl
      rw [eg] at p1 p2
      exact h1 q hq ⟨by rw [p1]; omega, by rw [p1, p2]; omega⟩
theorem runs_good {w : World} {z : Nat → Int} {n : Nat} {ps : Nat → Pc} (h : PL w z (runs z n) ps) (i : Nat) (hi : i < (runs z n).length) : good (n : Int) (ps i) := by
  obtain ⟨p1, p2, _, _, _⟩ := h i hi
  have := runs_at z n i hi
  unfold good
  rw [p1, p2]
  omega
theorem prow_any {w : World} {B : Nat} {z : Nat → Int} {L : List (Nat × Nat)} {ps : Nat → Pc} {v : Value} (h : w.ownsRow B 57 2 v L.length (cellsP ps L.length)) (hP : PL w z L ps) : ∃ Ap cap, v = .slice Ap L.length cap ∧ PRow w Ap L.length ps := by
  rcases Nat.eq_zero_or_pos L.length with h0 | h0
  · rw [h0] at h ⊢
    rcases h.2 with ⟨e, _⟩ | ⟨g', cap, cur, he, _⟩
    · exact ⟨_, _, e, fun i hi => by omega⟩
    · exact ⟨_, _, he, fun i hi => by omega⟩
  · obtain ⟨g, cap, rfl, _⟩ := own_slice h h0
    exact ⟨_, _, rfl, prow_own h rfl hP⟩
theorem imgE_or (n : Nat) : imgE n = 0 ∨ imgE n = 6 := by unfold imgE; split <;> simp
theorem imgE_pages {n : Nat} (h : imgE n = 0) : 0 < n ∧ n % 8192 = 0 ∧ n ≤ 1048576 := by
  unfold imgE at h
  split at h
  · assumption
  · cases h
end Go.Proofs.Ytdfjpdcnjjgljaa
