/-
  Texts of these proofs, one behind the other: Cart8, Cart13.
-/
import Derived.Test.YtnhnphifhkkboaaDoorKSW18
import Derived.Test.YtnhnphifhkkboaaDoorKSW20
import Derived.ScopeJumps
import Derived.WalkMore
import Derived.WalkArith
import Derived.Test.YtnhnphifhkkboaaDoorKSW01
import Derived.StillTailTactics
namespace Go.Proofs.YtnhnphifhkkboaaDoor
open Go.RowKit
set_option linter.unusedVariables false
theorem IRow.cut {w : World} {k : IntKind} {A : Option Addr} {n e c : Nat} {z : Nat → Int} (h : IRow w k A n z) (he : e ≤ n) (hc : n ≤ c) : IRow w k (if c = e then A else A.map (·.add e)) (n - e) (fun j => z (e + j)) := fun j hj => by
  obtain ⟨ad, rfl, hl, hcell, hw⟩ := h (e + j) (by omega)
  rw [if_neg (by omega)]
  exact ⟨ad.add e, rfl, by rw [block_of_add]; exact hl, by rw [add_of_add]; exact hcell, hw⟩
theorem IRow.less {w : World} {k : IntKind} {A : Option Addr} {n m : Nat} {z : Nat → Int} (h : IRow w k A n z) (hm : m ≤ n) : IRow w k A m z := fun j hj => h j (by omega)
/-- A piece's bytes lie at the head of a block of bytes. -/
def PcB (w : World) (p : Pc) : Prop := ∃ g C, p.A = some ⟨g, 0, none⟩ ∧ Blk w g 5 C
theorem PcB.keep {w w' : World} {p : Pc} (h : PcB w p) (hb : Below w.heap.size w w') : PcB w' p := by
  obtain ⟨g, C, e, hC⟩ := h
  exact ⟨g, C, e, hC.below hb hC.lt⟩
theorem pc_grown {w w' : World} {p : Pc} {row : Option Nat} (h : PcOk w p) (hp : PcB w p) (gb : w.grownBy w' row) (hne : ∀ g C, Blk w g 5 C → some g ≠ row) : PcOk w' p ∧ PcB w' p := by
  obtain ⟨g, C, e, hC⟩ := hp
  refine ⟨⟨h.1, h.2.1, h.2.2.1, fun i hi => ?_⟩, g, C, e, hC.grown gb (hne g C hC)⟩
  obtain ⟨ad, e2, hl, hc, hw⟩ := h.2.2.2 i hi
  rw [e] at e2
  injection e2 with e2
  subst e2
  refine ⟨_, e, Nat.lt_of_lt_of_le hl gb.size, ?_, hw⟩
  rw [add_zero_block] at hc ⊢
  exact (World.cell?_of_block (gb.block g hC.lt (hne g C hC))).trans hc
/-- Pieces that are the rows L of the bytes z. -/
def PL (w : World) (z : Nat → Int) (L : List (Nat × Nat)) (ps : Nat → Pc) : Prop :=
  ∀ i, i < L.length → (ps i).at_ = ((L.getD i (0, 0)).1 : Int) ∧ (ps i).n = (L.getD i (0, 0)).2 ∧ (ps i).z = (fun j => z ((L.getD i (0, 0)).1 + j)) ∧ PcOk w (ps i) ∧ PcB w (ps i)
def cellsP (ps : Nat → Pc) (m : Nat) : List Value := (List.range m).flatMap fun i => [.int .i64 (ps i).at_, .slice (ps i).A (ps i).n (ps i).c]
theorem cellsP_succ (ps : Nat → Pc) (m : Nat) : cellsP ps (m + 1) = cellsP ps m ++ [.int .i64 (ps m).at_, .slice (ps m).A (ps m).n (ps m).c] := by
  unfold cellsP; rw [List.range_succ, List.flatMap_append]; simp
theorem cellsP_congr (ps qs : Nat → Pc) (m : Nat) (h : ∀ i, i < m → ps i = qs i) : cellsP ps m = cellsP qs m := by
  unfold cellsP
  induction m with
  | zero => rfl
  | succ m ih => rw [List.range_succ, List.flatMap_append, List.flatMap_append, ih fun i hi => h i (by omega)]; simp [h m (by omega)]
theorem piece_info : (Tryd.prog.info? 108).map (fun i => (i.zero, i.size, i.bytes)) = some (some (.agg #[.int .i64 0, .slice none 0 0]), 2, 32) := by kernel_rfl
theorem PL.keep {w w' : World} {z : Nat → Int} {L : List (Nat × Nat)} {ps : Nat → Pc} (h : PL w z L ps) (hb : Below w.heap.size w w') : PL w' z L ps := fun i hi => by
  obtain ⟨a, b, c, d, e⟩ := h i hi
  exact ⟨a, b, c, d.keep hb, e.keep hb⟩
theorem own_ne {w : World} {base e size n : Nat} {v : Value} {xs : List Value} (h : w.ownsRow base e size v n xs) (g : Nat) (t : TypeId) (cs : Array Value) (hb : Blk w g t cs) (hne : e ≠ t) : some g ≠ v.ownBlock := by
  rcases h.2 with ⟨rfl, _⟩ | ⟨g', cap, cur, rfl, _, hh, _⟩
  · simp [Value.ownBlock]
  · intro he
    have : g' = g := by simpa [Value.ownBlock] using he.symm
    subst this
    exact Blk.ne_ (t := e) hh hb hne rfl
theorem PL.add {w w' : World} {z : Nat → Int} {L : List (Nat × Nat)} {ps : Nat → Pc} {row : Option Nat} (h : PL w z L ps) (gb : w.grownBy w' row) (hne : ∀ g C, Blk w g 5 C → some g ≠ row) (p : Pc) (f d : Nat) (h1 : p.at_ = (f : Int)) (h2 : p.n = d) (h3 : p.z = fun j => z (f + j)) (ok : PcOk w p) (pb : PcB w p) :
    PL w' z (L ++ [(f, d)]) (fun i => if i < L.length then ps i else p) := fun i hi => by
  by_cases hl : i < L.length
  · obtain ⟨a, b, c, e, g⟩ := h i hl
    have k := pc_grown e g gb hne
    have eg : (L ++ [(f, d)]).getD i (0, 0) = L.getD i (0, 0) := by
      rw [List.getD_eq_getElem?_getD, List.getD_eq_getElem?_getD, List.getElem?_append_left hl]
    simp only [if_pos hl]
    rw [eg]
    exact ⟨a, b, c, k.1, k.2⟩
  · have k := pc_grown ok pb gb hne
    have il : i = L.length := by rw [List.length_append, List.length_singleton] at hi; omega
    have eg : (L ++ [(f, d)]).getD i (0, 0) = (f, d) := by
      rw [il, List.getD_eq_getElem?_getD]; simp
    simp only [if_neg hl]
    rw [eg]
    exact ⟨h1, h2, h3, k.1, k.2⟩
theorem slice_from (A : Option Addr) (n c e : Nat) (he : e ≤ n) (hc : n ≤ c) (W : World) : (Instr.slice 22 (.slice A n c) (some (.int .i64 (e : Int))) none none).run Tryd.prog W = .ok (.slice (if c = e then A else A.map (·.add e)) (n - e) (c - e)) W := by
  have hs : (sizeOf 5).run Tryd.prog W = .ok 1 W := by kernel_rfl
  have he' : Tryd.prog.elem 22 = 5 := by kernel_rfl
  rw [run_slice_l (P := Tryd.prog) W 22 A n c (by rw [he']; exact Tryd.underlying22) .i64 e (by omega) (by omega)]
  rw [he', hs]
  simp [Result.andThen, sliced]
/-- One round of the walk: from where the last piece ends. -/
def PJ (w : World) (A : Option Addr) (n c : Nat) (z : Nat → Int) (a' : Act) (w' : World) : Prop :=
  ∃ (e : Nat) (v : Value) (ps : Nat → Pc) (U4 : e ≤ n) (U5 : Below w.heap.size w w') (U6 : w'.ownsRow w.heap.size 108 2 v (runs z e).length (cellsP ps (runs z e).length)) (U7 : PL w' z (runs z e) ps) (U8 : e = 0 ∨ e = n ∨ z e = 0),
    ∃ u7 u8 u9 u10 u11 u12 u13 u14 u15 u16 u17 u18 u19 u20 u21 u22 u23 u24 u25 u26 u27 u28 u29 u30 u31 u32 u33 u34 u35 u36 u37 u38 : Value, a' = { tmps := #[.slice A n c, undef, .slice none 0 0, .int .i64 0, .int .i64 0, v, .int .i64 e, u7, u8, u9, u10, u11, u12, u13, u14, u15, u16, u17, u18, u19, u20, u21, u22, u23, u24, u25, u26, u27, u28, u29, u30, u31, u32, u33, u34, u35, u36, u37, u38], defers := [] }
theorem own_below {w w' : World} {base e size n : Nat} {v : Value} {xs : List Value} (h : w.ownsRow base e size v n xs) (hb : Below w.heap.size w w') : w'.ownsRow base e size v n xs :=
  h.kept (row := none) ⟨hb.os, hb.tape, hb.output, hb.size, fun i hi _ => hb.block i hi⟩ (by cases v.ownBlock <;> simp)
theorem runs_step {z : Nat → Int} {n e k1 k2 : Nat} (he : e ≤ n) (h1 : k1 ≤ n - e) (g1 : k2 ≤ n - (e + k1)) (hk2 : 0 < k2) (hb : e = 0 ∨ e = n ∨ z e = 0) (h2 : ∀ j, j < k1 → (z (e + j) == 0) = true) (g2 : ∀ j, j < k2 → (z (e + k1 + j) == 0) = false) :
    runs z (e + k1 + k2) = runs z e ++ [(e + k1, k2)] := by
  have z1 : runs z (e + k1) = runs z e := runs_zero z e (e + k1) (by omega) fun j a b => by
    have := h2 (j - e) (by omega)
    rw [show e + (j - e) = j by omega] at this
    simpa using this
  obtain ⟨d, rfl⟩ : ∃ d, k2 = d + 1 := ⟨k2 - 1, by omega⟩
  rw [runs_block z (e + k1) d ?_ ?_, z1]
  · by_cases h : k1 = 0
    · subst h
      have g0 := g2 0 (by omega)
      rcases hb with h | h | h
      · left; omega
      · omega
      · rw [show e + 0 + 0 = e by omega, h] at g0; cases g0
    · right
      have := h2 (k1 - 1) (by omega)
      rw [show e + (k1 - 1) = e + k1 - 1 by omega] at this
      simpa using this
  · intro j hj h
    have := g2 j hj
    rw [h] at this; cases this
theorem runs_end {z : Nat → Int} {n e k1 : Nat} (he : e ≤ n) (h1 : k1 ≤ n - e) (g1 : 0 ≤ n - (e + k1)) (hb : e = 0 ∨ e = n ∨ z e = 0) (h2 : ∀ j, j < k1 → (z (e + j) == 0) = true) (g3 : 0 < n - (e + k1) → (z (e + k1 + 0) == 0) = !false) (h3 : k1 < n - e → (z (e + k1) == 0) = !true) : runs z n = runs z e := by
  have hk : k1 = n - e := by
    rcases Nat.lt_or_ge k1 (n - e) with h | h
    · have a := h3 h
      have b := g3 (by omega)
      rw [Nat.add_zero, a] at b; cases b
    · omega
  exact runs_zero z e n he fun j a b => by
    have := h2 (j - e) (by omega)
    rw [show e + (j - e) = j by omega] at this
    simpa using this
theorem wp_scope_first {P : Program} {a : Act} {w : World} {Q : Exit → Act → World → Prop} {c rest : Code} (l : Nat) (J : Act → World → Prop) (μ : Act → World → Nat) (hf : findLabel c l = some (Code.skip.seq rest))
    (pass : ∀ a w, J a w → rest.wp P (Exit.jump l (fun a' w' => J a' w' ∧ μ a' w' < μ a w) Q) a w)
    (first : (∀ a w, J a w → rest.wp P (Exit.jump l J Q) a w) → c.wp P (Exit.jump l J Q) a w) : (Code.scope c).wp P Q a w :=
  wp_scope_jumps l J μ hf (first fun a w h => wp_mono (pass a w h) fun e a w hq => by
    cases e <;> first | exact hq | exact ⟨hq.1, hq.2.1⟩) fun a w h => wp_seq (wp_skip (pass a w h))
set_option maxRecDepth 100000 in
set_option maxHeartbeats 4000000 in
theorem pieces_any {w : World} (A : Option Addr) (n c : Nat) (z : Nat → Int) (hnc : n ≤ c) (hn : n ≤ 1048576) (hE : imgE n = 0) (R : IRow w .u8 A n z) :
    Calls Tryd.prog 106 #[.slice A n c] w fun e w' => (∃ v ps, e = .returned (.tuple #[v, .int .i64 0]) ∧ w'.ownsRow w.heap.size 108 2 v (runs z n).length (cellsP ps (runs z n).length) ∧ PL w' z (runs z n) ps) ∧ Below w.heap.size w w' := by
  have n0 : 0 < n := by
    unfold imgE at hE
    split at hE
    · rename_i h; exact h.1
    · cases hE
  obtain ⟨ad, rfl, _, _, _⟩ := R 0 n0
  have HE := Lib.hid hE
  clear hE
  go_enter Tryd.func106, Tryd.ntmps106
  go_wp2_with fail
  refine wp_scope_first 0 (PJ w (some ad) n c z) (fun a' _ => n - (intOf (a'.tmps.getD 6 undef)).toNat) rfl ?_ ?_
  · rintro a' w' ⟨e, v, ps, U4, U5, U6, U7, U8, u7, u8, u9, u10, u11, u12, u13, u14, u15, u16, u17, u18, u19, u20, u21, u22, u23, u24, u25, u26, u27, u28, u29, u30, u31, u32, u33, u34, u35, u36, u37, u38, rfl⟩
    have RW := R.keep U5
    have hsl := slice_from (some ad) n c e U4 hnc
    have RE := RW.cut (e := e) U4 hnc
    generalize (if c = e then some ad else (some ad : Option Addr).map (·.add e)) = AE at *
    go_wp2_with fail
    refine (ahead_any AE _ _ _ true (by unfold maxLen; omega) RE).mono ?_
    rintro e1 w1 ⟨⟨k1, rfl, h1, h2, h3⟩, rfl⟩
    have hsl2 : ∀ W : World, (Instr.slice 22 (.slice (some ad) n c) (some (.int .i64 ((e : Int) + k1))) none none).run Tryd.prog W = .ok (.slice (if c = e + k1 then some ad else (some ad : Option Addr).map (·.add (e + k1))) (n - (e + k1)) (c - (e + k1))) W := fun W => by
      rw [← Int.natCast_add]; exact slice_from (some ad) n c (e + k1) (by omega) hnc W
    have RF := RW.cut (e := e + k1) (by omega) hnc
    have AF0 : k1 < n - e → (if c = e + k1 then some ad else (some ad : Option Addr).map (·.add (e + k1))) = some (ad.add (e + k1)) := fun h => if_neg (by omega)
    generalize (if c = e + k1 then some ad else (some ad : Option Addr).map (·.add (e + k1))) = AF at *
    have H2 := Lib.hid h2
    have H3 := Lib.hid h3
    have HAF := Lib.hid AF0
    clear h2 h3 hsl AF0
    go_wp2_with fail
    refine (ahead_any AF _ _ _ false (by unfold maxLen; omega) RF).mono ?_
    rintro e1 w1 ⟨⟨k2, rfl, g1, g2, g3⟩, rfl⟩
    have G2 := Lib.hid g2
    have G3 := Lib.hid g3
    clear g2 g3 hsl2
    by_cases hk2 : 0 < k2
    · have AFe : AF = some (ad.add (e + k1)) := HAF.out (by omega)
      have RC : IRow w' .u8 (some (ad.add (e + k1))) k2 (fun j => z (e + k1 + j)) := by rw [← AFe]; exact RF.less (by omega)
      have HRC := Lib.hid RC
      clear AFe RC
      go_wp2_with fail
      rw [show e + k1 + k2 - (e + k1) = k2 by omega]
      refine (clone_any (ad.add (e + k1)) _ _ _ (by omega) (by omega) HRC.out).mono ?_
      rintro e1 w2 ⟨⟨g, cap, rfl, q1, q2, RG, C0, q3⟩, hb⟩
      have RB := runs_step U4 h1 g1 hk2 U8 H2.out G2.out
      have own2 := own_below U6 hb
      have hB2 : Below w.heap.size w w2 := U5.trans (hb.mono U5.size)
      have z2 := hB2.size
      have LN := runs_len z e
      obtain ⟨v', w3, hrun, own3, gb⟩ := more_new (P := Tryd.prog) (ty := 82) (c := 1) (m := 1) (g := w2.heap.size) Tryd.underlying82 piece_info rfl (by decide) own2 #[.int .i64 ((e : Int) + k1), .slice (some ⟨g, 0, none⟩) k2 cap] rfl (by simp [Value.oneCell']) rfl (by omega) (by omega) z2
      have hb3 : Below w2.heap.size w2 (w2.alloc (.cells #[.int .i64 ((e : Int) + k1), .slice (some ⟨g, 0, none⟩) k2 cap] 108)) := (Below.refl _ _).alloc (Nat.le_refl _) _
      have hB3 : Below w.heap.size w w3 := (hB2.trans (hb3.mono z2)).grown gb (by simp; omega) (fun j h => (own2.lt j h).1)
      have PN := (U7.keep hb).keep hb3
      have RG3 := RG.keep hb3
      have q4 := q3.below hb3 q3.lt
      have okp : PcOk (w2.alloc (.cells #[.int .i64 ((e : Int) + k1), .slice (some ⟨g, 0, none⟩) k2 cap] 108)) ⟨(e : Int) + k1, some ⟨g, 0, none⟩, k2, cap, fun j => z (e + k1 + j)⟩ := ⟨WalkArith.wf_i64 (n := (e : Int) + k1) (by omega), q1, q2, RG3⟩
      have PA := PN.add gb (fun g' C' hb' => own_ne (own2.alloc _) g' _ C' hb' (by decide)) _ (e + k1) k2 (by show (e : Int) + k1 = _; omega) rfl rfl okp ⟨g, C0, rfl, q4⟩
      rw [← RB] at PA
      have own4 : w3.ownsRow w.heap.size 108 2 v' (runs z (e + k1 + k2)).length (cellsP (fun i => if i < (runs z e).length then ps i else ⟨(e : Int) + k1, some ⟨g, 0, none⟩, k2, cap, fun j => z (e + k1 + j)⟩) (runs z (e + k1 + k2)).length) := by
        rw [RB, List.length_append, List.length_singleton, cellsP_succ, cellsP_congr _ ps _ (fun i hi => if_pos hi), if_neg (Nat.lt_irrefl _)]
        exact own3
      have bd : e + k1 + k2 = 0 ∨ e + k1 + k2 = n ∨ z (e + k1 + k2) = 0 := by
        rcases Nat.lt_or_ge k2 (n - (e + k1)) with h | h
        · right; right
          have := G3.out h
          simpa using this
        · right; left; omega
      have HPA := Lib.hid PA
      have HOW := Lib.hid own4
      have HBD := Lib.hid bd
      clear PA own4 bd okp PN RG3 RG own2 own3 U6 U7 U8 q4 q3
      go_wp2_with (at_builtin; refine wpList_append_run rfl (.tmp 28) (.tmp 36) 82 rfl rfl rfl hrun ?_)
      go_step3
      rw [show (e : Int) + k1 + k2 = ((e + k1 + k2 : Nat) : Int) by omega]
      refine ⟨rfl, ⟨e + k1 + k2, v', _, by omega, hB3, HOW.out, HPA.out, HBD.out, _, _, _, _, _, _, _, _, _, _, _, _, _, _, _, _, _, _, _, _, _, _, _, _, _, _, _, _, _, _, _, _, rfl⟩, ?_⟩
      simp [intOf]; omega
    · obtain rfl : k2 = 0 := by omega
      have RE0 : runs z n = runs z e := runs_end U4 h1 g1 U8 H2.out G3.out H3.out
      rw [← RE0] at U6 U7
      have HU6 := Lib.hid U6
      have HU7 := Lib.hid U7
      clear U6 U7 RE0
      go_wp2_with fail
      simp only [Exit.jump]
      go_ret2
      exact ⟨⟨v, ps, rfl, HU6.out, HU7.out⟩, U5⟩
  · intro hp
    go_wp2_with (go_at_call 44; refine (asV (check_any _ _ _ _ (by unfold maxLen; omega)) (by rw [HE.out])).mono ?_; rintro e w' ⟨rfl, rfl⟩)
    go_step3
    simp only [Exit.then]
    rename_i hK
    refine hK _ _ (hp _ _ ?_)
    exact ⟨0, .slice none 0 0, fun _ => ⟨0, none, 0, 0, fun _ => 0⟩, Nat.zero_le _, Below.refl _ _, ⟨rfl, Or.inl ⟨rfl, rfl⟩⟩, fun i hi => absurd hi (by simp [runs]), Or.inl rfl, _, _, _, _, _, _, _, _, _, _, _, _, _, _, _, _, _, _, _, _, _, _, _, _, _, _, _, _, _, _, _, _, rfl⟩
end Go.Proofs.YtnhnphifhkkboaaDoor
namespace Go.Proofs.YtnhnphifhkkboaaDoor
open Go.RowKit
set_option linter.unusedVariables false
theorem runs_last (z : Nat → Int) (i : Nat) (hi : 0 < i) (hz : z (i - 1) ≠ 0) : ∃ L f d, runs z i = L ++ [(f, d)] ∧ f + d = i ∧ 0 < d := by
  induction i with
  | zero => omega
  | succ i ih =>
    rw [Nat.add_sub_cancel] at hz
    rw [runs_succ, if_neg hz]
    by_cases c : 0 < i ∧ z (i - 1) ≠ 0
    · obtain ⟨L, f, d, e, h1, h2⟩ := ih c.1 c.2
      rw [if_pos c, e]
      exact ⟨L, f, d + 1, by simp, by omega, by omega⟩
    · rw [if_neg c]; exact ⟨_, i, 1, rfl, rfl, by omega⟩
theorem runs_more (z : Nat → Int) (i : Nat) (hi : 0 < i) (hz : z (i - 1) ≠ 0) (hz2 : z i ≠ 0) {L : List (Nat × Nat)} {f d : Nat} (e : runs z i = L ++ [(f, d)]) : runs z (i + 1) = L ++ [(f, d + 1)] := by
  rw [runs_succ, if_neg hz2, if_pos ⟨hi, hz⟩, e]; simp
theorem runs_new (z : Nat → Int) (i : Nat) (hz : i = 0 ∨ z (i - 1) = 0) (hz2 : z i ≠ 0) : runs z (i + 1) = runs z i ++ [(i, 1)] := by
  rw [runs_succ, if_neg hz2, if_neg (by rintro ⟨a, b⟩; rcases hz with h | h; omega; exact b h)]
/-- A piece's bytes lie in a row of the call's own. -/
def RowB (w : World) (B : Nat) (p : Pc) : Prop := ∃ g, p.A = some ⟨g, 0, none⟩ ∧ w.ownsRow B 5 1 (.slice (some ⟨g, 0, none⟩) p.n p.c) p.n (bytesOf p.z p.n)
theorem RowB.alloc {w : World} {B : Nat} {p : Pc} (h : RowB w B p) (o : Obj) : RowB (w.alloc o) B p := by
  obtain ⟨g, a, b⟩ := h
  exact ⟨g, a, b.alloc o⟩
theorem RowB.grown {w w' : World} {B : Nat} {p : Pc} {row : Option Nat} (h : RowB w B p) (gb : w.grownBy w' row) (hne : ∀ g, p.A = some ⟨g, 0, none⟩ → some g ≠ row) : RowB w' B p := by
  obtain ⟨g, a, b⟩ := h
  exact ⟨g, a, b.kept gb (Or.inr (hne g a))⟩
theorem own_type {w : World} {base e size n c g : Nat} {xs : List Value} (h : w.ownsRow base e size (.slice (some ⟨g, 0, none⟩) n c) n xs) : ∃ cs, Blk w g e cs := by
  rcases h.2 with ⟨h, _⟩ | ⟨g', cap, cur, he, _, hh, _⟩
  · cases h
  · injection he with e1 _ _
    rw [Option.some.injEq, Addr.mk.injEq] at e1
    rw [e1.1]; exact ⟨cur, hh⟩
def PQ (w : World) (B : Nat) (z : Nat → Int) (L : List (Nat × Nat)) (ps : Nat → Pc) : Prop :=
  ∀ i, i < L.length → (ps i).at_ = ((L.getD i (0, 0)).1 : Int) ∧ (ps i).n = (L.getD i (0, 0)).2 ∧ (ps i).z = (fun j => z ((L.getD i (0, 0)).1 + j)) ∧ (Lit.int .i64 (ps i).at_).wf = true ∧ RowB w B (ps i)
def Dist (ps : Nat → Pc) (m : Nat) : Prop := ∀ j, j + 1 < m → (ps j).A ≠ (ps (m - 1)).A
theorem RowB.ok {w : World} {B : Nat} {p : Pc} (h : RowB w B p) (hw : (Lit.int .i64 p.at_).wf = true) (hz : ∀ j, j < p.n → (Lit.int .u8 (p.z j)).wf = true) : PcOk w p ∧ PcB w p := by
  obtain ⟨g, a, b⟩ := h
  obtain ⟨cs, hb⟩ := own_type b
  have hlt : g < w.heap.size := (b.lt g rfl).2
  have hc : p.n ≤ p.c ∧ p.c ≤ maxLen := by
    rcases b.2 with ⟨h, _⟩ | ⟨g', cap, cur, he, _, _, hnc, hcm, _⟩
    · cases h
    · injection he with _ _ e3
      rw [e3]; exact ⟨hnc, hcm⟩
  refine ⟨⟨hw, hc.1, hc.2, fun i hi => ⟨_, a, hlt, b.cells (g := g) rfl i _ (bytesOf_at p.z p.n i hi), hz i hi⟩⟩, g, cs, a, hb⟩
theorem PQ.pl {w : World} {B : Nat} {z : Nat → Int} {L : List (Nat × Nat)} {ps : Nat → Pc} (h : PQ w B z L ps) (hz : ∀ i, i < L.length → ∀ j, j < (L.getD i (0, 0)).2 → (Lit.int .u8 (z ((L.getD i (0, 0)).1 + j))).wf = true) : PL w z L ps := fun i hi => by
  obtain ⟨a, b, c, d, e⟩ := h i hi
  have := e.ok d (fun j hj => by rw [c]; exact hz i hi j (by rw [← b]; exact hj))
  exact ⟨a, b, c, this.1, this.2⟩
theorem getD_left (L : List (Nat × Nat)) (x : Nat × Nat) (i : Nat) (h : i < L.length) : (L ++ [x]).getD i (0, 0) = L.getD i (0, 0) := by
  rw [List.getD_eq_getElem?_getD, List.getD_eq_getElem?_getD, List.getElem?_append_left h]
theorem getD_last (L : List (Nat × Nat)) (x : Nat × Nat) : (L ++ [x]).getD L.length (0, 0) = x := by
  rw [List.getD_eq_getElem?_getD]; simp
theorem PQ.new {w w' : World} {B : Nat} {z : Nat → Int} {L : List (Nat × Nat)} {ps : Nat → Pc} {row : Option Nat} (h : PQ w B z L ps) (gb : w.grownBy w' row) (hne : ∀ g cs, Blk w g 5 cs → some g ≠ row) (p : Pc) (f : Nat) (h1 : p.at_ = (f : Int)) (h2 : p.n = 1) (h3 : p.z = fun j => z (f + j)) (hw : (Lit.int .i64 p.at_).wf = true) (hp : RowB w B p) :
    PQ w' B z (L ++ [(f, 1)]) (fun i => if i < L.length then ps i else p) := fun i hi => by
  have key : ∀ q : Pc, RowB w B q → RowB w' B q := fun q hq => hq.grown gb fun g e => by
    obtain ⟨g', e', b⟩ := hq
    rw [e] at e'
    injection e' with e'
    rw [Addr.mk.injEq] at e'
    obtain ⟨cs, hb⟩ := own_type b
    rw [e'.1]
    exact hne g' cs hb
  by_cases hl : i < L.length
  · obtain ⟨a, b, c, d, e⟩ := h i hl
    simp only [if_pos hl]
    rw [getD_left L _ i hl]
    exact ⟨a, b, c, d, key _ e⟩
  · have il : i = L.length := by rw [List.length_append, List.length_singleton] at hi; omega
    simp only [if_neg hl]
    rw [il, getD_last]
    exact ⟨h1, h2, h3, hw, key _ hp⟩
theorem PQ.upd {w w2 w3 : World} {B go gq : Nat} {z : Nat → Int} {L : List (Nat × Nat)} {f d : Nat} {ps : Nat → Pc} (h : PQ w B z (L ++ [(f, d)]) ps) (hd : Dist ps (L.length + 1)) (hq : (ps L.length).A = some ⟨gq, 0, none⟩)
    (gb1 : w.grownBy w2 (some gq)) (gb2 : w2.grownBy w3 (some go)) (hne : ∀ g cs, Blk w2 g 5 cs → g ≠ go) (p : Pc) (h1 : p.at_ = (f : Int)) (h2 : p.n = d + 1) (h3 : p.z = fun j => z (f + j)) (hp : RowB w2 B p) :
    PQ w3 B z (L ++ [(f, d + 1)]) (fun i => if i < L.length then ps i else p) := fun i hi => by
  have key : ∀ q : Pc, RowB w2 B q → RowB w3 B q := fun q hq => hq.grown gb2 fun g e => by
    obtain ⟨g', e', b⟩ := hq
    rw [e] at e'
    injection e' with e'
    rw [Addr.mk.injEq] at e'
    obtain ⟨cs, hb⟩ := own_type b
    rw [e'.1]
    intro h
    injection h with h
    exact hne g' cs hb h
  by_cases hl : i < L.length
  · obtain ⟨a, b, c, e, r⟩ := h i (by simp; omega)
    simp only [if_pos hl]
    rw [getD_left L _ i hl] at a b c ⊢
    refine ⟨a, b, c, e, key _ (r.grown gb1 fun g eg hgq => ?_)⟩
    injection hgq with hgq
    subst hgq
    exact hd i (by omega) (by rw [eg, Nat.add_sub_cancel, hq])
  · have il : i = L.length := by rw [List.length_append, List.length_singleton] at hi; omega
    obtain ⟨a, b, c, e, r⟩ := h L.length (by simp)
    rw [getD_last] at a
    simp only [if_neg hl]
    rw [il, getD_last]
    exact ⟨h1, h2, h3, by rw [h1, ← a]; exact e, key _ hp⟩
theorem cellsP_len (ps : Nat → Pc) (m : Nat) : (cellsP ps m).length = m * 2 := by
  induction m with
  | zero => rfl
  | succ m ih => rw [cellsP_succ, List.length_append, ih]; simp; omega
theorem cellsP_set (ps : Nat → Pc) (m : Nat) (p : Pc) (h : p.at_ = (ps m).at_) : (cellsP ps (m + 1)).set (m * 2 + 1) (.slice p.A p.n p.c) = cellsP (fun i => if i < m then ps i else p) (m + 1) := by
  have hl := cellsP_len ps m
  have h2 : cellsP (fun i => if i < m then ps i else p) (m + 1) = cellsP ps m ++ [.int .i64 (ps m).at_, .slice p.A p.n p.c] := by
    rw [cellsP_succ, cellsP_congr (fun i => if i < m then ps i else p) ps m (fun i hi => if_pos hi)]
    simp [h]
  rw [h2, cellsP_succ, List.set_append, if_neg (by omega), hl, show m * 2 + 1 - m * 2 = 1 by omega]
  rfl
theorem one_own {w : World} {B : Nat} {z : Nat → Int} {i : Nat} (hB : B ≤ w.heap.size) : (w.alloc (.cells #[.int .u8 (z i)] 5)).ownsRow B 5 1 (.slice (some ⟨w.heap.size, 0, none⟩) 1 1) 1 (bytesOf (fun j => z (i + j)) 1) :=
  ⟨rfl, Or.inr ⟨w.heap.size, 1, #[.int .u8 (z i)], rfl, hB, heap_alloc_new w _, Nat.le_refl _, by unfold maxLen; omega, rfl, rfl⟩⟩
theorem PQ.lt {w : World} {B : Nat} {z : Nat → Int} {L : List (Nat × Nat)} {ps : Nat → Pc} (h : PQ w B z L ps) (i : Nat) (hi : i < L.length) : ∃ g, (ps i).A = some ⟨g, 0, none⟩ ∧ g < w.heap.size := by
  obtain ⟨_, _, _, _, g, e, b⟩ := h i hi
  exact ⟨g, e, (b.lt g rfl).2⟩
theorem PQ.alloc {w : World} {B : Nat} {z : Nat → Int} {L : List (Nat × Nat)} {ps : Nat → Pc} (h : PQ w B z L ps) (o : Obj) : PQ (w.alloc o) B z L ps := fun i hi => by
  obtain ⟨a, b, c, d, e⟩ := h i hi
  exact ⟨a, b, c, d, e.alloc o⟩
end Go.Proofs.YtnhnphifhkkboaaDoor
