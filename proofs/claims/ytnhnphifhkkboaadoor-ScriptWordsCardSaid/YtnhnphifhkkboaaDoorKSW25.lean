/-
  Texts of these proofs, one behind the other: Cart14, Cart15, Cart16.
-/
import Derived.Test.YtnhnphifhkkboaaDoorKSW21
import Derived.WalkMore
import Derived.WalkArith
import Derived.Deep.RegionLaw
import Derived.Deep.RegionHeld3
import Derived.Deep.DrawnRows
import Derived.Test.YtnhnphifhkkboaaDoorKSW20
import Derived.StillTailTactics
namespace Go.Proofs.YtnhnphifhkkboaaDoor
open Go.RowKit
set_option linter.unusedVariables false
attribute [local go_sem ↓] Go.wp_at_zero Go.wp_at_succ
/-- At a step of a region that draws its order: a built-in append whose run is known. -/
theorem step_append_run {P : Program} {w w' : World} {ops : Array Oper} {o : Oper} {a : Act} {K : Act → World → Prop} {Q : Exit → Act → World → Prop} {E : Prop} (hgd : o.guard = none) (s x : Operand) (t : TypeId)
    (ho : o.op = .call { callee := .builtin .append, args := #[s, x], argTypes := #[t, t] }) {v u v' : Value} (hs : a.eval s = v) (hx : a.eval x = u)
    (hrun : (Builtin.append_ #[t, t] o.type #[v, u]).run P w = .ok v' w') (h : K (a.put o.dst v') w') :
    if Region.wanted o (yielded ops a.tmps) = true then Oper.wp P o a w K Q else E := by
  have hw : Region.wanted o (yielded ops a.tmps) = true := by simp [Region.wanted, hgd]
  rw [if_pos hw]
  unfold Oper.wp execOp
  simp only [ho, resolve, invoke, builtin, Sem.run_bind, Sem.run_pure, Result.andThen_ok, List.map_toArray, List.map_cons, List.map_nil, hs, hx, hrun]
  exact h
theorem runs_in (z : Nat → Int) (i : Nat) : ∀ x ∈ runs z i, x.1 + x.2 ≤ i := by
  induction i with
  | zero => intro x hx; simp [runs] at hx
  | succ i ih =>
    rw [runs_succ]
    by_cases h : z i = 0
    · rw [if_pos h]; intro x hx; have := ih x hx; omega
    · rw [if_neg h]
      by_cases c : 0 < i ∧ z (i - 1) ≠ 0
      · obtain ⟨L, f, d, e, h1, h2⟩ := runs_last z i c.1 c.2
        rw [if_pos c, e]
        rw [e] at ih
        intro x hx
        simp only [List.dropLast_concat, List.getLastD_concat, List.mem_append, List.mem_singleton] at hx
        rcases hx with hx | rfl
        · have := ih x (by simp [hx]); omega
        · show f + (d + 1) ≤ i + 1; omega
      · rw [if_neg c]
        intro x hx
        simp only [List.mem_append, List.mem_singleton] at hx
        rcases hx with hx | rfl
        · have := ih x hx; omega
        · exact Nat.le_refl _
theorem runs_at (z : Nat → Int) (n i : Nat) (h : i < (runs z n).length) : ((runs z n).getD i (0, 0)).1 + ((runs z n).getD i (0, 0)).2 ≤ n :=
  runs_in z n _ (by rw [List.getD_eq_getElem?_getD, List.getElem?_eq_getElem h]; simp)
theorem own_slice {w : World} {base e size n : Nat} {v : Value} {xs : List Value} (h : w.ownsRow base e size v n xs) (hn : 0 < n) : ∃ g cap, v = .slice (some ⟨g, 0, none⟩) n cap ∧ n ≤ cap ∧ cap ≤ maxLen ∧ base ≤ g ∧ g < w.heap.size ∧ ∃ cs, Blk w g e cs := by
  rcases h.2 with ⟨_, h⟩ | ⟨g', cap, cur, he, hb, hh, h1, h2, _⟩
  · omega
  · exact ⟨g', cap, he, h1, h2, hb, (Array.getElem?_eq_some_iff.1 hh).1, cur, hh⟩
/-- A byte laid behind a piece's own row. -/
theorem byte_more {w : World} {B : Nat} {n : Nat} {v : Value} {xs : List Value} (h : w.ownsRow B 5 1 v n xs) (hn : n ≤ 1048576) (hB : B ≤ w.heap.size) (b : Int) :
    ∃ v' w', (Builtin.append_ #[22, 22] 22 #[v, .slice (some ⟨w.heap.size, 0, none⟩) 1 1]).run Tryd.prog (w.alloc (.cells #[.int .u8 b] 5)) = .ok v' w' ∧ w'.ownsRow B 5 1 v' (n + 1) (xs ++ [.int .u8 b]) ∧ (w.alloc (.cells #[.int .u8 b] 5)).grownBy w' v.ownBlock ∧ (v'.ownBlock = v.ownBlock ∨ v'.ownBlock = some (w.heap.size + 1)) := by
  obtain ⟨i, hi, hzz⟩ := Option.map_eq_some_iff.1 u8_info'
  simp only [Prod.mk.injEq] at hzz
  obtain ⟨hz, hs, hb⟩ := hzz
  obtain ⟨v', w', h1, h2, h3, _, h5⟩ := run_append_own_at (P := Tryd.prog) (w.alloc (.cells #[.int .u8 b] 5)) B 22 22 5 i (.int .u8 0) 1 1 Tryd.underlying22 hi hz hs hb rfl (by omega) v n xs (h.alloc _) ⟨w.heap.size, 0, none⟩ 1 1 [.int .u8 b] rfl
    (fun j u hu => by
      rw [add_zero_block, cell_of_row _ _ j _ 5 (0, 0) (heap_alloc_new w _)]
      simpa using hu)
    (by simp [Value.oneCell']) (by unfold maxLen; omega) (by omega) (by simp; omega)
  exact ⟨v', w', h1, h2, h3, by simpa using h5⟩
theorem cellsP_at (ps : Nat → Pc) (m i : Nat) (h : i < m) : (cellsP ps m)[i * 2]? = some (.int .i64 (ps i).at_) ∧ (cellsP ps m)[i * 2 + 1]? = some (.slice (ps i).A (ps i).n (ps i).c) := by
  induction m with
  | zero => omega
  | succ m ih =>
    have hl := cellsP_len ps m
    rw [cellsP_succ]
    rcases Nat.lt_or_ge i m with hi | hi
    · rw [List.getElem?_append_left (by omega), List.getElem?_append_left (by omega)]
      exact ih hi
    · obtain rfl : i = m := by omega
      rw [List.getElem?_append_right (by omega), List.getElem?_append_right (by omega), hl, show i * 2 - i * 2 = 0 by omega, show i * 2 + 1 - i * 2 = 1 by omega]
      exact ⟨rfl, rfl⟩
set_option maxRecDepth 100000 in
set_option maxHeartbeats 4000000 in
theorem refPieces_any {w : World} (A : Option Addr) (n c : Nat) (z : Nat → Int) (hnc : n ≤ c) (hc : c ≤ maxLen) (hn : n ≤ 1048576) (R : IRow w .u8 A n z) :
    Calls Tryd.prog 62 #[.slice A n c] w fun e w' => (∃ v ps, e = .returned v ∧ w'.ownsRow w.heap.size 108 2 v (runs z n).length (cellsP ps (runs z n).length) ∧ PL w' z (runs z n) ps) ∧ Below w.heap.size w w' := by
  go_enter Tryd.func62, Tryd.ntmps62
  go_wp2_with fail
  go_loopw [3, 4] (fun o i wr => ∃ j : Nat, ∃ ps : Nat → Pc, j ≤ n ∧ i = .int .i64 j ∧ wr.ownsRow w.heap.size 108 2 o (runs z j).length (cellsP ps (runs z j).length) ∧ Below w.heap.size w wr ∧ Hid (PQ wr w.heap.size z (runs z j) ps ∧ Dist ps (runs z j).length)) (fun _ i _ => n - (intOf i).toNat)
  case atStart => exact ⟨0, fun _ => ⟨0, none, 0, 0, fun _ => 0⟩, Nat.zero_le _, rfl, ⟨rfl, Or.inl ⟨rfl, rfl⟩⟩, Below.refl _ _, Lib.hid ⟨fun i hi => absurd hi (by simp [runs]), fun j hj => absurd hj (by simp [runs])⟩⟩
  case round =>
    obtain ⟨j, ps, hj, rfl, own, hB, HP⟩ := hrel
    have LN := runs_len z j
    by_cases hjn : j < n
    · obtain ⟨ad, rfl, hl, hcell, hwf⟩ := (R.keep hB) j hjn
      have i1 : (0 : Int) ≤ (j : Int) := by omega
      have i2 : (j : Int) < n := by omega
      by_cases hz : z j = 0
      · have R0 : runs z (j + 1) = runs z j := by rw [runs_succ, if_pos hz]
        rw [← R0] at own HP
        go_wp2_with fail
        go_roundw
        case rel => exact ⟨j + 1, ps, by omega, by go_num, own, hB, HP⟩
        case measure => simp [intOf]; omega
      · have RJ := runs_in z j
        by_cases hj0 : 0 < j ∧ z (j - 1) ≠ 0
        · obtain ⟨hj1, hj2⟩ := hj0
          have i5 : (0 : Int) < (j : Int) := by omega
          obtain ⟨ad2, e2, hl2, hcell2, _⟩ := (R.keep hB) (j - 1) (by omega)
          obtain rfl : ad = ad2 := by injection e2
          obtain ⟨L, f, d, e, h1, h2⟩ := runs_last z j hj1 hj2
          have RB := runs_more z j hj1 hj2 hz e
          rw [e] at own HP LN
          have own0 := own
          simp only [List.length_append, List.length_singleton] at own LN
          obtain ⟨P1, D1⟩ := HP.out
          rw [List.length_append, List.length_singleton] at D1
          obtain ⟨a1, a2, a3, a4, gq, a5, a6⟩ := P1 L.length (by simp)
          rw [getD_last] at a1 a2 a3
          simp only at a1 a2 a3
          obtain ⟨go, cap, rfl, q1, q2, q3, q4, cs, hb⟩ := own_slice own (by omega)
          have cp := cellsP_at ps (L.length + 1) L.length (by omega)
          have c1 := own.cells (g := go) rfl _ _ cp.2
          rw [a2, a3] at a6
          rw [a5, a2] at c1
          obtain ⟨cq, hq⟩ := own_type a6
          have hne := own_ne own gq _ cq hq (by decide)
          have PD : PQ wr.drew w.heap.size z (L ++ [(f, d)]) ps := P1
          have OD : wr.drew.ownsRow w.heap.size 108 2 (.slice (some ⟨go, 0, none⟩) (L.length + 1) cap) (L.length + 1) (cellsP ps (L.length + 1)) := own
          have AD : wr.drew.ownsRow w.heap.size 5 1 (.slice (some ⟨gq, 0, none⟩) d (ps L.length).c) d (bytesOf (fun k => z (f + k)) d) := a6
          have hBd : Below w.heap.size w wr.drew := hB.drew
          have RB' : bytesOf (fun k => z (f + k)) d ++ [.int .u8 (z j)] = bytesOf (fun k => z (f + k)) (d + 1) := by
            unfold bytesOf; rw [List.range_succ, List.map_append]; simp [h1]
          obtain ⟨v', w2, hrun, own2, gb, ob⟩ := byte_more AD (by omega) hBd.size (z j)
          rw [RB'] at own2
          obtain ⟨g', c', rfl, q5, q6, _, _, _⟩ := own_slice own2 (by omega)
          have O1 := (OD.alloc (.cells #[.int .u8 (z j)] 5)).kept gb (Or.inr (fun h => hne h.symm))
          obtain ⟨go', cap', he', _, _, _, q7, cs', hb'⟩ := own_slice O1 (by omega)
          obtain ⟨rfl, rfl⟩ : go = go' ∧ cap = cap' := by simpa using he'
          have c2 := O1.cells (g := go) rfl _ _ cp.2
          rw [add_zero_block] at c1 c2
          have f2 := hb'.frozen (L.length * 2 + 1)
          have hBa : Below w.heap.size w (wr.drew.alloc (.cells #[.int .u8 (z j)] 5)) := hBd.alloc hBd.size _
          have hB2 : Below w.heap.size w w2 := hBa.grown gb hBa.size (fun j' h => (AD.lt j' h).1)
          obtain ⟨ad3, e3, hl3, hcell3, _⟩ := (R.keep hB2) j hjn
          obtain rfl : ad = ad3 := by injection e3
          have st := O1.stored (L.length * 2 + 1) (.slice (some ⟨g', 0, none⟩) (d + 1) c')
          have hst := cellsP_set ps L.length ⟨(f : Int), some ⟨g', 0, none⟩, d + 1, c', fun k => z (f + k)⟩ a1.symm
          have OW3 := st.1
          rw [hst] at OW3
          have RL : (runs z (j + 1)).length = L.length + 1 := by rw [RB, List.length_append, List.length_singleton]
          have OW4 : (w2.setCell ⟨go, L.length * 2 + 1, none⟩ (.slice (some ⟨g', 0, none⟩) (d + 1) c')).ownsRow w.heap.size 108 2 (.slice (some ⟨go, 0, none⟩) (L.length + 1) cap) (runs z (j + 1)).length (cellsP (fun i => if i < L.length then ps i else ⟨(f : Int), some ⟨g', 0, none⟩, d + 1, c', fun k => z (f + k)⟩) (runs z (j + 1)).length) := by rw [RL]; exact OW3
          have PQ3 := (PD.alloc (.cells #[.int .u8 (z j)] 5)).upd D1 a5 gb st.2 (fun g cs h => h.ne_ hb' (by decide)) ⟨(f : Int), some ⟨g', 0, none⟩, d + 1, c', fun k => z (f + k)⟩ rfl rfl rfl ⟨g', rfl, own2⟩
          rw [← RB] at PQ3
          have D3 : Dist (fun i => if i < L.length then ps i else ⟨(f : Int), some ⟨g', 0, none⟩, d + 1, c', fun k => z (f + k)⟩) (runs z (j + 1)).length := fun i hi => by
            rw [RL] at hi ⊢
            simp only [if_pos (show i < L.length by omega), if_neg (show ¬ L.length + 1 - 1 < L.length by omega)]
            intro he
            rcases ob with ob | ob
            · obtain rfl : g' = gq := by simpa [Value.ownBlock] using ob
              exact D1 i hi (by rw [he, Nat.add_sub_cancel, a5])
            · obtain rfl : g' = wr.heap.size + 1 := by simpa [Value.ownBlock] using ob
              obtain ⟨gx, ex, lx⟩ := P1.lt i (by simp; omega)
              rw [ex] at he
              injection he with he
              rw [Addr.mk.injEq] at he
              omega
          have B3 : Below w.heap.size w (w2.setCell ⟨go, L.length * 2 + 1, none⟩ (.slice (some ⟨g', 0, none⟩) (d + 1) c')) := hB2.setCell (p := ⟨go, L.length * 2 + 1, none⟩) q3 _
          have HH := Lib.hid (And.intro OW4 (And.intro B3 (And.intro PQ3 D3)))
          clear PD OD AD O1 own2 ob a4 P1 own own0 hb hb' hq hne cp st hst OW3 OW4 PQ3 D3 B3
          have i6 : (0 : Int) ≤ (L.length : Int) := by omega
          have i7 : (L.length : Int) < ((L.length + 1 : Nat) : Int) := by omega
          have i8 : (L.length : Int) < (L.length : Int) + 1 := by omega
          go_wp2_with fail
          have n1 := World.new_ne wr _ c1
          have n2 := World.new_ne wr _ hcell
          go_region_law (refine step_append_run rfl _ _ _ (by rfl) (by rfl) (by rfl) (by exact hrun) ?_)
          all_goals try go_wp2_with fail
          all_goals
            go_roundw
            case rel => exact ⟨j + 1, _, by omega, by go_num, HH.out.1, HH.out.2.1, Lib.hid HH.out.2.2⟩
            case measure => simp [intOf]; omega
        · have hR := runs_new z j (by omega) hz
          obtain ⟨P1, D1⟩ := HP.out
          have own1 := own.alloc (.cells #[.int .u8 (z j)] 5)
          have z1 : (wr.alloc (.cells #[.int .u8 (z j)] 5)).heap.size = wr.heap.size + 1 := by simp
          obtain ⟨v', w3, hrun, own3, gb⟩ := more_new (P := Tryd.prog) (ty := 82) (c := 1) (m := 1) (g := wr.heap.size + 1) Tryd.underlying82 piece_info rfl (by decide) own1 #[.int .i64 (j : Int), .slice (some ⟨wr.heap.size, 0, none⟩) 1 1] rfl (by simp [Value.oneCell']) z1.symm (by omega) (by omega) (by have := hB.size; omega)
          have hB1 : Below w.heap.size w (wr.alloc (.cells #[.int .u8 (z j)] 5)) := hB.alloc hB.size _
          have hB2 : Below w.heap.size w ((wr.alloc (.cells #[.int .u8 (z j)] 5)).alloc (.cells #[.int .i64 (j : Int), .slice (some ⟨wr.heap.size, 0, none⟩) 1 1] 108)) := hB1.alloc hB1.size _
          have B3 : Below w.heap.size w w3 := hB2.grown gb hB2.size (fun j' h => (own1.lt j' h).1)
          have own2 := own1.alloc (.cells #[.int .i64 (j : Int), .slice (some ⟨wr.heap.size, 0, none⟩) 1 1] 108)
          have PQ3 := ((P1.alloc (.cells #[.int .u8 (z j)] 5)).alloc (.cells #[.int .i64 (j : Int), .slice (some ⟨wr.heap.size, 0, none⟩) 1 1] 108)).new gb (fun g cs h => own_ne own2 g _ cs h (by decide)) ⟨(j : Int), some ⟨wr.heap.size, 0, none⟩, 1, 1, fun k => z (j + k)⟩ j rfl rfl rfl (WalkArith.wf_i64 (n := (j : Int)) (by omega)) ⟨wr.heap.size, rfl, (one_own (i := j) hB.size).alloc _⟩
          have RL : (runs z (j + 1)).length = (runs z j).length + 1 := by rw [hR, List.length_append, List.length_singleton]
          rw [← hR] at PQ3
          have OW4 : w3.ownsRow w.heap.size 108 2 v' (runs z (j + 1)).length (cellsP (fun i => if i < (runs z j).length then ps i else ⟨(j : Int), some ⟨wr.heap.size, 0, none⟩, 1, 1, fun k => z (j + k)⟩) (runs z (j + 1)).length) := by
            rw [RL, cellsP_succ, cellsP_congr _ ps _ (fun i hi => if_pos hi), if_neg (Nat.lt_irrefl _)]
            exact own3
          have D3 : Dist (fun i => if i < (runs z j).length then ps i else ⟨(j : Int), some ⟨wr.heap.size, 0, none⟩, 1, 1, fun k => z (j + k)⟩) (runs z (j + 1)).length := fun i hi => by
            rw [RL] at hi ⊢
            simp only [if_pos (show i < (runs z j).length by omega), if_neg (show ¬ (runs z j).length + 1 - 1 < (runs z j).length by omega)]
            intro he
            obtain ⟨gx, ex, lx⟩ := P1.lt i (by omega)
            rw [ex] at he
            injection he with he
            rw [Addr.mk.injEq] at he
            omega
          have HH := Lib.hid (And.intro OW4 (And.intro B3 (And.intro PQ3 D3)))
          clear OW4 B3 PQ3 D3 own own1 own2 own3 P1 D1 HP
          rcases Nat.eq_zero_or_pos j with h0 | h0
          · have i5 : ¬ (0 : Int) < (j : Int) := by omega
            clear h0
            go_wp2_with (at_builtin; refine wpList_append_run rfl (.tmp 45) (.tmp 53) 82 rfl rfl rfl hrun ?_)
            go_roundw
            case rel => exact ⟨j + 1, _, by omega, by go_num, HH.out.1, HH.out.2.1, Lib.hid HH.out.2.2⟩
            case measure => simp [intOf]; omega
          · have i5 : (0 : Int) < (j : Int) := by omega
            have hz2 : z (j - 1) = 0 := by
              rcases Decidable.em (z (j - 1) = 0) with h | h
              · exact h
              · exact absurd ⟨h0, h⟩ hj0
            obtain ⟨ad2, e2, hl2, hcell2, _⟩ := (R.keep hB) (j - 1) (by omega)
            obtain rfl : ad = ad2 := by injection e2
            rw [hz2] at hcell2
            go_wp2_with (at_builtin; refine wpList_append_run rfl (.tmp 45) (.tmp 53) 82 rfl rfl rfl hrun ?_)
            go_roundw
            case rel => exact ⟨j + 1, _, by omega, by go_num, HH.out.1, HH.out.2.1, Lib.hid HH.out.2.2⟩
            case measure => simp [intOf]; omega
    · obtain rfl : j = n := by omega
      obtain ⟨P1, _⟩ := HP.out
      have PLn := P1.pl (fun i hi k hk => by
        have := runs_at z j i hi
        obtain ⟨_, _, _, _, h⟩ := R (((runs z j).getD i (0, 0)).1 + k) (by omega)
        exact h)
      have HPL := Lib.hid PLn
      clear PLn
      go_wp2_with fail
      go_ret
      exact ⟨⟨_, ps, rfl, own, HPL.out⟩, hB⟩
end Go.Proofs.YtnhnphifhkkboaaDoor
namespace Go.Proofs.YtnhnphifhkkboaaDoor
open Go.RowKit
set_option linter.unusedVariables false
/-- The pieces of a row of the call's own. -/
theorem prow_own {w : World} {B g m cap : Nat} {z : Nat → Int} {L : List (Nat × Nat)} {ps : Nat → Pc} (h : w.ownsRow B 108 2 (.slice (some ⟨g, 0, none⟩) m cap) m (cellsP ps m)) (hm : m = L.length) (hP : PL w z L ps) : PRow w (some ⟨g, 0, none⟩) m ps := fun i hi => by
  have hc := cellsP_at ps m i hi
  obtain ⟨_, _, _, ok, _⟩ := hP i (by omega)
  refine ⟨_, rfl, (h.lt g rfl).2, h.cells (g := g) rfl _ _ hc.1, h.cells (g := g) rfl _ _ hc.2, ok⟩
end Go.Proofs.YtnhnphifhkkboaaDoor
namespace Go.Proofs.YtnhnphifhkkboaaDoor
open Go.RowKit
set_option linter.unusedVariables false
theorem runs_cover (z : Nat → Int) (n : Nat) : ∀ i, i < n → z i ≠ 0 → ∃ x ∈ runs z n, x.1 ≤ i ∧ i < x.1 + x.2 := by
  induction n with
  | zero => intro i hi; omega
  | succ n ih =>
    intro i hi hz
    by_cases h : z n = 0
    · rw [runs_succ, if_pos h]
      have : i ≠ n := fun e => hz (by rw [e]; exact h)
      exact ih i (by omega) hz
    · by_cases c : 0 < n ∧ z (n - 1) ≠ 0
      · obtain ⟨L, f, d, e, h1, h2⟩ := runs_last z n c.1 c.2
        rw [runs_more z n c.1 c.2 h e]
        rw [e] at ih
        rcases Nat.lt_or_ge i n with hl | hl
        · obtain ⟨x, hx, x1, x2⟩ := ih i hl hz
          simp only [List.mem_append, List.mem_singleton] at hx
          rcases hx with hx | rfl
          · exact ⟨x, by simp [hx], x1, x2⟩
          · exact ⟨(f, d + 1), by simp, x1, by show i < f + (d + 1); have : i < f + d := x2; omega⟩
        · exact ⟨(f, d + 1), by simp, by show f ≤ i; omega, by show i < f + (d + 1); omega⟩
      · rw [runs_new z n (by
          by_cases h0 : n = 0
          · exact Or.inl h0
          · right
            rcases Decidable.em (z (n - 1) = 0) with k | k
            · exact k
            · exact absurd ⟨by omega, k⟩ c) h]
        rcases Nat.lt_or_ge i n with hl | hl
        · obtain ⟨x, hx, x1, x2⟩ := ih i hl hz
          exact ⟨x, by simp [hx], x1, x2⟩
        · exact ⟨(n, 1), by simp, hl, by show i < n + 1; exact hi⟩
theorem laid_or (ps : Nat → Pc) (k i : Nat) : (∃ q, q < k ∧ (ps q).at_ ≤ i ∧ (i : Int) < (ps q).at_ + (ps q).n ∧ laid ps k i = (ps q).z ((i : Int) - (ps q).at_).toNat) ∨ ((∀ q, q < k → ¬ ((ps q).at_ ≤ i ∧ (i : Int) < (ps q).at_ + (ps q).n)) ∧ laid ps k i = 0) := by
  induction k with
  | zero => exact Or.inr ⟨fun q hq => by omega, rfl⟩
  | succ k ih =>
    by_cases c : (ps k).at_ ≤ i ∧ (i : Int) < (ps k).at_ + (ps k).n
    · left
      exact ⟨k, by omega, c.1, c.2, by simp only [laid]; rw [if_pos c]⟩
    · have e : laid ps (k + 1) i = laid ps k i := by simp only [laid]; rw [if_neg c]
      rcases ih with ⟨q, hq, a, b, h⟩ | ⟨h1, h2⟩
      · exact Or.inl ⟨q, by omega, a, b, by rw [e, h]⟩
      · exact Or.inr ⟨fun q hq => by
          rcases Nat.lt_or_ge q k with h | h
          · exact h1 q h
          · rw [show q = k by omega]; exact c, by rw [e, h2]⟩
theorem laid_runs {w : World} {z : Nat → Int} {n : Nat} {ps : Nat → Pc} (h : PL w z (runs z n) ps) (i : Nat) (hi : i < n) : laid ps (runs z n).length i = z i := by
  rcases laid_or ps (runs z n).length i with ⟨q, hq, a, b, e⟩ | ⟨h1, h2⟩
  · obtain ⟨p1, p2, p3, _, _⟩ := h q hq
    rw [e, p3, p1]
    rw [p1] at a b
    show z _ = z i
    congr 1
    omega
  · rw [h2]
    rcases Decidable.em (z i = 0) with k | k
    · exact k.symm
    · exfalso
      obtain ⟨x, hx, x1, x2⟩ := runs_cover z n i hi k
      obtain ⟨q, hq, rfl⟩ := List.getElem_of_mem hx
      obtain ⟨p1, p2, _, _, _⟩ := h q hq
      have eg : (runs z n).getD q (0, 0) = (runs z n)[q] := by rw [List.getD_eq_getElem?_getD, List.getElem?_eq_getElem hq]; rfl
      rw [eg] at p1 p2
      exact h1 q hq ⟨by rw [p1]; omega, by rw [p1, p2]; omega⟩
theorem runs_good {w : World} {z : Nat → Int} {n : Nat} {ps : Nat → Pc} (h : PL w z (runs z n) ps) (i : Nat) (hi : i < (runs z n).length) : good (n : Int) (ps i) := by
  obtain ⟨p1, p2, _, _, _⟩ := h i hi
  have := runs_at z n i hi
  unfold good
  rw [p1, p2]
  omega
theorem prow_any {w : World} {B : Nat} {z : Nat → Int} {L : List (Nat × Nat)} {ps : Nat → Pc} {v : Value} (h : w.ownsRow B 108 2 v L.length (cellsP ps L.length)) (hP : PL w z L ps) : ∃ Ap cap, v = .slice Ap L.length cap ∧ PRow w Ap L.length ps := by
  rcases Nat.eq_zero_or_pos L.length with h0 | h0
  · rw [h0] at h ⊢
    rcases h.2 with ⟨e, _⟩ | ⟨g', cap, cur, he, _⟩
    · exact ⟨_, _, e, fun i hi => by omega⟩
    · exact ⟨_, _, he, fun i hi => by omega⟩
  · obtain ⟨g, cap, rfl, _⟩ := own_slice h h0
    exact ⟨_, _, rfl, prow_own h rfl hP⟩
theorem pieces_bad {w : World} (A : Option Addr) (n c : Nat) (hn : n ≤ maxLen) (hE : imgE n = 6) :
    Calls Tryd.prog 106 #[.slice A n c] w fun e w' => e = .returned (.tuple #[.slice none 0 0, .int .i64 6]) ∧ w = w' := by
  have HN := Lib.hid hn
  clear hn
  go_enter Tryd.func106, Tryd.ntmps106
  go_wp2_with fail
  refine wp_scope_first 0 (fun _ _ => False) (fun _ _ => 0) rfl (fun _ _ h => h.elim) ?_
  intro _
  go_wp2_with (go_at_call 44; refine (asV (check_any _ _ _ _ HN.out) (by rw [hE])).mono ?_; rintro e w' ⟨rfl, rfl⟩)

  simp only [Exit.jump]
  go_ret2
  exact ⟨rfl, rfl⟩
theorem imgE_or (n : Nat) : imgE n = 0 ∨ imgE n = 6 := by unfold imgE; split <;> simp
theorem imgE_pages {n : Nat} (h : imgE n = 0) : 0 < n ∧ n % 8192 = 0 ∧ n ≤ 1048576 := by
  unfold imgE at h
  split at h
  · assumption
  · cases h
end Go.Proofs.YtnhnphifhkkboaaDoor
