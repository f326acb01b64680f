/-
  Texts of these proofs, one behind the other: Cart8, Ram6, Bus8.
-/
import Derived.Test.YtleofglnlfpoeaaGreatKBP16
import Derived.Test.YtleofglnlfpoeaaGreatKBP35
import Derived.ScopeJumps
import Derived.WalkMore
import Derived.WalkArith
import Derived.Test.YtleofglnlfpoeaaGreatKBP01
import Derived.Test.YtleofglnlfpoeaaGreatKBP32
import Derived.Test.YtleofglnlfpoeaaGreatKBP04
namespace Go.Proofs.YtleofglnlfpoeaaGreat
open Go.RowKit
set_option linter.unusedVariables false
theorem IRow.cut {w : World} {k : IntKind} {A : Option Addr} {n e c : Nat} {z : Nat → Int} (h : IRow w k A n z) (he : e ≤ n) (hc : n ≤ c) : IRow w k (if c = e then A else A.map (·.add e)) (n - e) (fun j => z (e + j)) := fun j hj => by
  obtain ⟨ad, rfl, hl, hcell, hw⟩ := h (e + j) (by omega)
  rw [if_neg (by omega)]
  exact ⟨ad.add e, rfl, by rw [block_of_add]; exact hl, by rw [add_of_add]; exact hcell, hw⟩
theorem IRow.less {w : World} {k : IntKind} {A : Option Addr} {n m : Nat} {z : Nat → Int} (h : IRow w k A n z) (hm : m ≤ n) : IRow w k A m z := fun j hj => h j (by omega)
/-- A piece's bytes lie at the head of a block of bytes. -/
def PcB (w : World) (p : Pc) : Prop := ∃ g C, p.A = some ⟨g, 0, none⟩ ∧ Blk w g 5 C
theorem PcB.keep {w w' : World} {p : Pc} (h : PcB w p) (hb : Below w.heap.size w w') : PcB w' p := by
  obtain ⟨g, C, e, hC⟩ := h
  exact ⟨g, C, e, hC.below hb hC.lt⟩
theorem pc_grown {w w' : World} {p : Pc} {row : Option Nat} (h : PcOk w p) (hp : PcB w p) (gb : w.grownBy w' row) (hne : ∀ g C, Blk w g 5 C → some g ≠ row) : PcOk w' p ∧ PcB w' p := by
  obtain ⟨g, C, e, hC⟩ := hp
  refine ⟨⟨h.1, h.2.1, h.2.2.1, fun i hi => ?_⟩, g, C, e, hC.grown gb (hne g C hC)⟩
  obtain ⟨ad, e2, hl, hc, hw⟩ := h.2.2.2 i hi
  rw [e] at e2
  injection e2 with e2
  subst e2
  refine ⟨_, e, Nat.lt_of_lt_of_le hl gb.size, ?_, hw⟩
  rw [add_zero_block] at hc ⊢
  exact (World.cell?_of_block (gb.block g hC.lt (hne g C hC))).trans hc
/-- Pieces that are the rows L of the bytes z. -/
def PL (w : World) (z : Nat → Int) (L : List (Nat × Nat)) (ps : Nat → Pc) : Prop :=
  ∀ i, i < L.length → (ps i).at_ = ((L.getD i (0, 0)).1 : Int) ∧ (ps i).n = (L.getD i (0, 0)).2 ∧ (ps i).z = (fun j => z ((L.getD i (0, 0)).1 + j)) ∧ PcOk w (ps i) ∧ PcB w (ps i)
def cellsP (ps : Nat → Pc) (m : Nat) : List Value := (List.range m).flatMap fun i => [.int .i64 (ps i).at_, .slice (ps i).A (ps i).n (ps i).c]
theorem cellsP_succ (ps : Nat → Pc) (m : Nat) : cellsP ps (m + 1) = cellsP ps m ++ [.int .i64 (ps m).at_, .slice (ps m).A (ps m).n (ps m).c] := by
  unfold cellsP; rw [List.range_succ, List.flatMap_append]; simp
theorem cellsP_congr (ps qs : Nat → Pc) (m : Nat) (h : ∀ i, i < m → ps i = qs i) : cellsP ps m = cellsP qs m := by
  unfold cellsP
  induction m with
  | zero => rfl
  | succ m ih => rw [List.range_succ, List.flatMap_append, List.flatMap_append, ih fun i hi => h i (by omega)]; simp [h m (by omega)]
theorem piece_info : (Tryz.prog.info? 131).map (fun i => (i.zero, i.size, i.bytes)) = some (some (.agg #[.int .i64 0, .slice none 0 0]), 2, 32) := by kernel_rfl
theorem PL.keep {w w' : World} {z : Nat → Int} {L : List (Nat × Nat)} {ps : Nat → Pc} (h : PL w z L ps) (hb : Below w.heap.size w w') : PL w' z L ps := fun i hi => by
  obtain ⟨a, b, c, d, e⟩ := h i hi
  exact ⟨a, b, c, d.keep hb, e.keep hb⟩
theorem own_ne {w : World} {base e size n : Nat} {v : Value} {xs : List Value} (h : w.ownsRow base e size v n xs) (g : Nat) (t : TypeId) (cs : Array Value) (hb : Blk w g t cs) (hne : e ≠ t) : some g ≠ v.ownBlock := by
  rcases h.2 with ⟨rfl, _⟩ | ⟨g', cap, cur, rfl, _, hh, _⟩
  · simp [Value.ownBlock]
  · intro he
    have : g' = g := by simpa [Value.ownBlock] using he.symm
    subst this
    exact Blk.ne_ (t := e) hh hb hne rfl
theorem PL.add {w w' : World} {z : Nat → Int} {L : List (Nat × Nat)} {ps : Nat → Pc} {row : Option Nat} (h : PL w z L ps) (gb : w.grownBy w' row) (hne : ∀ g C, Blk w g 5 C → some g ≠ row) (p : Pc) (f d : Nat) (h1 : p.at_ = (f : Int)) (h2 : p.n = d) (h3 : p.z = fun j => z (f + j)) (ok : PcOk w p) (pb : PcB w p) :
    PL w' z (L ++ [(f, d)]) (fun i => if i < L.length then ps i else p) := fun i hi => by
  by_cases hl : i < L.length
  · obtain ⟨a, b, c, e, g⟩ := h i hl
    have k := pc_grown e g gb hne
    have eg : (L ++ [(f, d)]).getD i (0, 0) = L.getD i (0, 0) := by
      rw [List.getD_eq_getElem?_getD, List.getD_eq_getElem?_getD, List.getElem?_append_left hl]
    simp only [if_pos hl]
    rw [eg]
    exact ⟨a, b, c, k.1, k.2⟩
  · have k := pc_grown ok pb gb hne
    have il : i = L.length := by rw [List.length_append, List.length_singleton] at hi; omega
    have eg : (L ++ [(f, d)]).getD i (0, 0) = (f, d) := by
      rw [il, List.getD_eq_getElem?_getD]; simp
    simp only [if_neg hl]
    rw [eg]
    exact ⟨h1, h2, h3, k.1, k.2⟩
theorem slice_from (A : Option Addr) (n c e : Nat) (he : e ≤ n) (hc : n ≤ c) (W : World) : (Instr.slice 22 (.slice A n c) (some (.int .i64 (e : Int))) none none).run Tryz.prog W = .ok (.slice (if c = e then A else A.map (·.add e)) (n - e) (c - e)) W := by
  have hs : (sizeOf 5).run Tryz.prog W = .ok 1 W := by kernel_rfl
  have he' : Tryz.prog.elem 22 = 5 := by kernel_rfl
  rw [run_slice_l (P := Tryz.prog) W 22 A n c (by rw [he']; exact Tryz.underlying22) .i64 e (by omega) (by omega)]
  rw [he', hs]
  simp [Result.andThen, sliced]
/-- One round of the walk: from where the last piece ends. -/
def PJ (w : World) (A : Option Addr) (n c : Nat) (z : Nat → Int) (a' : Act) (w' : World) : Prop :=
  ∃ (e : Nat) (v : Value) (ps : Nat → Pc) (U4 : e ≤ n) (U5 : Below w.heap.size w w') (U6 : w'.ownsRow w.heap.size 131 2 v (runs z e).length (cellsP ps (runs z e).length)) (U7 : PL w' z (runs z e) ps) (U8 : e = 0 ∨ e = n ∨ z e = 0),
    ∃ u7 u8 u9 u10 u11 u12 u13 u14 u15 u16 u17 u18 u19 u20 u21 u22 u23 u24 u25 u26 u27 u28 u29 u30 u31 u32 u33 u34 u35 u36 u37 u38 : Value, a' = { tmps := #[.slice A n c, undef, .slice none 0 0, .int .i64 0, .int .i64 0, v, .int .i64 e, u7, u8, u9, u10, u11, u12, u13, u14, u15, u16, u17, u18, u19, u20, u21, u22, u23, u24, u25, u26, u27, u28, u29, u30, u31, u32, u33, u34, u35, u36, u37, u38], defers := [] }
theorem own_below {w w' : World} {base e size n : Nat} {v : Value} {xs : List Value} (h : w.ownsRow base e size v n xs) (hb : Below w.heap.size w w') : w'.ownsRow base e size v n xs :=
  h.kept (row := none) ⟨hb.os, hb.tape, hb.output, hb.size, fun i hi _ => hb.block i hi⟩ (by cases v.ownBlock <;> simp)
theorem runs_step {z : Nat → Int} {n e k1 k2 : Nat} (he : e ≤ n) (h1 : k1 ≤ n - e) (g1 : k2 ≤ n - (e + k1)) (hk2 : 0 < k2) (hb : e = 0 ∨ e = n ∨ z e = 0) (h2 : ∀ j, j < k1 → (z (e + j) == 0) = true) (g2 : ∀ j, j < k2 → (z (e + k1 + j) == 0) = false) :
    runs z (e + k1 + k2) = runs z e ++ [(e + k1, k2)] := by
  have z1 : runs z (e + k1) = runs z e := runs_zero z e (e + k1) (by omega) fun j a b => by
    have := h2 (j - e) (by omega)
    rw [show e + (j - e) = j by omega] at this
    simpa using this
  obtain ⟨d, rfl⟩ : ∃ d, k2 = d + 1 := ⟨k2 - 1, by omega⟩
  rw [runs_block z (e + k1) d ?_ ?_, z1]
  · by_cases h : k1 = 0
    · subst h
      have g0 := g2 0 (by omega)
      rcases hb with h | h | h
      · left; omega
      · omega
      · rw [show e + 0 + 0 = e by omega, h] at g0; cases g0
    · right
      have := h2 (k1 - 1) (by omega)
      rw [show e + (k1 - 1) = e + k1 - 1 by omega] at this
      simpa using this
  · intro j hj h
    have := g2 j hj
    rw [h] at this; cases this
theorem runs_end {z : Nat → Int} {n e k1 : Nat} (he : e ≤ n) (h1 : k1 ≤ n - e) (g1 : 0 ≤ n - (e + k1)) (hb : e = 0 ∨ e = n ∨ z e = 0) (h2 : ∀ j, j < k1 → (z (e + j) == 0) = true) (g3 : 0 < n - (e + k1) → (z (e + k1 + 0) == 0) = !false) (h3 : k1 < n - e → (z (e + k1) == 0) = !true) : runs z n = runs z e := by
  have hk : k1 = n - e := by
    rcases Nat.lt_or_ge k1 (n - e) with h | h
    · have a := h3 h
      have b := g3 (by omega)
      rw [Nat.add_zero, a] at b; cases b
    · omega
  exact runs_zero z e n he fun j a b => by
    have := h2 (j - e) (by omega)
    rw [show e + (j - e) = j by omega] at this
    simpa using this
theorem wp_scope_first {P : Program} {a : Act} {w : World} {Q : Exit → Act → World → Prop} {c rest : Code} (l : Nat) (J : Act → World → Prop) (μ : Act → World → Nat) (hf : findLabel c l = some (Code.skip.seq rest))
    (pass : ∀ a w, J a w → rest.wp P (Exit.jump l (fun a' w' => J a' w' ∧ μ a' w' < μ a w) Q) a w)
    (first : (∀ a w, J a w → rest.wp P (Exit.jump l J Q) a w) → c.wp P (Exit.jump l J Q) a w) : (Code.scope c).wp P Q a w :=
  wp_scope_jumps l J μ hf (first fun a w h => wp_mono (pass a w h) fun e a w hq => by
    cases e <;> first | exact hq | exact ⟨hq.1, hq.2.1⟩) fun a w h => wp_seq (wp_skip (pass a w h))
set_option maxRecDepth 100000 in
set_option maxHeartbeats 4000000 in
theorem pieces_any {w : World} (A : Option Addr) (n c : Nat) (z : Nat → Int) (hnc : n ≤ c) (hn : n ≤ 1048576) (hE : imgE n = 0) (R : IRow w .u8 A n z) :
    Calls Tryz.prog 122 #[.slice A n c] w fun e w' => (∃ v ps, e = .returned (.tuple #[v, .int .i64 0]) ∧ w'.ownsRow w.heap.size 131 2 v (runs z n).length (cellsP ps (runs z n).length) ∧ PL w' z (runs z n) ps) ∧ Below w.heap.size w w' := by
  have n0 : 0 < n := by
    unfold imgE at hE
    split at hE
    · rename_i h; exact h.1
    · cases hE
  obtain ⟨ad, rfl, _, _, _⟩ := R 0 n0
  have HE := Lib.hid hE
  clear hE
  go_enter Tryz.func122, Tryz.ntmps122
  go_wp2_with fail
  refine wp_scope_first 0 (PJ w (some ad) n c z) (fun a' _ => n - (intOf (a'.tmps.getD 6 undef)).toNat) rfl ?_ ?_
  · rintro a' w' ⟨e, v, ps, U4, U5, U6, U7, U8, u7, u8, u9, u10, u11, u12, u13, u14, u15, u16, u17, u18, u19, u20, u21, u22, u23, u24, u25, u26, u27, u28, u29, u30, u31, u32, u33, u34, u35, u36, u37, u38, rfl⟩
    have RW := R.keep U5
    have hsl := slice_from (some ad) n c e U4 hnc
    have RE := RW.cut (e := e) U4 hnc
    generalize (if c = e then some ad else (some ad : Option Addr).map (·.add e)) = AE at *
    go_wp2_with fail
    refine (ahead_any AE _ _ _ true (by unfold maxLen; omega) RE).mono ?_
    rintro e1 w1 ⟨⟨k1, rfl, h1, h2, h3⟩, rfl⟩
    have hsl2 : ∀ W : World, (Instr.slice 22 (.slice (some ad) n c) (some (.int .i64 ((e : Int) + k1))) none none).run Tryz.prog W = .ok (.slice (if c = e + k1 then some ad else (some ad : Option Addr).map (·.add (e + k1))) (n - (e + k1)) (c - (e + k1))) W := fun W => by
      rw [← Int.natCast_add]; exact slice_from (some ad) n c (e + k1) (by omega) hnc W
    have RF := RW.cut (e := e + k1) (by omega) hnc
    have AF0 : k1 < n - e → (if c = e + k1 then some ad else (some ad : Option Addr).map (·.add (e + k1))) = some (ad.add (e + k1)) := fun h => if_neg (by omega)
    generalize (if c = e + k1 then some ad else (some ad : Option Addr).map (·.add (e + k1))) = AF at *
    have H2 := Lib.hid h2
    have H3 := Lib.hid h3
    have HAF := Lib.hid AF0
    clear h2 h3 hsl AF0
    go_wp2_with fail
    refine (ahead_any AF _ _ _ false (by unfold maxLen; omega) RF).mono ?_
    rintro e1 w1 ⟨⟨k2, rfl, g1, g2, g3⟩, rfl⟩
    have G2 := Lib.hid g2
    have G3 := Lib.hid g3
    clear g2 g3 hsl2
    by_cases hk2 : 0 < k2
    · have AFe : AF = some (ad.add (e + k1)) := HAF.out (by omega)
      have RC : IRow w' .u8 (some (ad.add (e + k1))) k2 (fun j => z (e + k1 + j)) := by rw [← AFe]; exact RF.less (by omega)
      have HRC := Lib.hid RC
      clear AFe RC
      go_wp2_with fail
      rw [show e + k1 + k2 - (e + k1) = k2 by omega]
      refine (clone_any (ad.add (e + k1)) _ _ _ (by omega) (by omega) HRC.out).mono ?_
      rintro e1 w2 ⟨⟨g, cap, rfl, q1, q2, RG, C0, q3⟩, hb⟩
      have RB := runs_step U4 h1 g1 hk2 U8 H2.out G2.out
      have own2 := own_below U6 hb
      have hB2 : Below w.heap.size w w2 := U5.trans (hb.mono U5.size)
      have z2 := hB2.size
      have LN := runs_len z e
      obtain ⟨v', w3, hrun, own3, gb⟩ := more_new (P := Tryz.prog) (ty := 23) (c := 1) (m := 1) (g := w2.heap.size) Tryz.underlying23 piece_info rfl (by decide) own2 #[.int .i64 ((e : Int) + k1), .slice (some ⟨g, 0, none⟩) k2 cap] rfl (by simp [Value.oneCell']) rfl (by omega) (by omega) z2
      have hb3 : Below w2.heap.size w2 (w2.alloc (.cells #[.int .i64 ((e : Int) + k1), .slice (some ⟨g, 0, none⟩) k2 cap] 131)) := (Below.refl _ _).alloc (Nat.le_refl _) _
      have hB3 : Below w.heap.size w w3 := (hB2.trans (hb3.mono z2)).grown gb (by simp; omega) (fun j h => (own2.lt j h).1)
      have PN := (U7.keep hb).keep hb3
      have RG3 := RG.keep hb3
      have q4 := q3.below hb3 q3.lt
      have okp : PcOk (w2.alloc (.cells #[.int .i64 ((e : Int) + k1), .slice (some ⟨g, 0, none⟩) k2 cap] 131)) ⟨(e : Int) + k1, some ⟨g, 0, none⟩, k2, cap, fun j => z (e + k1 + j)⟩ := ⟨WalkArith.wf_i64 (n := (e : Int) + k1) (by omega), q1, q2, RG3⟩
      have PA := PN.add gb (fun g' C' hb' => own_ne (own2.alloc _) g' _ C' hb' (by decide)) _ (e + k1) k2 (by show (e : Int) + k1 = _; omega) rfl rfl okp ⟨g, C0, rfl, q4⟩
      rw [← RB] at PA
      have own4 : w3.ownsRow w.heap.size 131 2 v' (runs z (e + k1 + k2)).length (cellsP (fun i => if i < (runs z e).length then ps i else ⟨(e : Int) + k1, some ⟨g, 0, none⟩, k2, cap, fun j => z (e + k1 + j)⟩) (runs z (e + k1 + k2)).length) := by
        rw [RB, List.length_append, List.length_singleton, cellsP_succ, cellsP_congr _ ps _ (fun i hi => if_pos hi), if_neg (Nat.lt_irrefl _)]
        exact own3
      have bd : e + k1 + k2 = 0 ∨ e + k1 + k2 = n ∨ z (e + k1 + k2) = 0 := by
        rcases Nat.lt_or_ge k2 (n - (e + k1)) with h | h
        · right; right
          have := G3.out h
          simpa using this
        · right; left; omega
      have HPA := Lib.hid PA
      have HOW := Lib.hid own4
      have HBD := Lib.hid bd
      clear PA own4 bd okp PN RG3 RG own2 own3 U6 U7 U8 q4 q3
      go_wp2_with (at_builtin; refine wpList_append_run rfl (.tmp 28) (.tmp 36) 23 rfl rfl rfl hrun ?_)
      go_step3
      rw [show (e : Int) + k1 + k2 = ((e + k1 + k2 : Nat) : Int) by omega]
      refine ⟨rfl, ⟨e + k1 + k2, v', _, by omega, hB3, HOW.out, HPA.out, HBD.out, _, _, _, _, _, _, _, _, _, _, _, _, _, _, _, _, _, _, _, _, _, _, _, _, _, _, _, _, _, _, _, _, rfl⟩, ?_⟩
      simp [intOf]; omega
    · obtain rfl : k2 = 0 := by omega
      have RE0 : runs z n = runs z e := runs_end U4 h1 g1 U8 H2.out G3.out H3.out
      rw [← RE0] at U6 U7
      have HU6 := Lib.hid U6
      have HU7 := Lib.hid U7
      clear U6 U7 RE0
      go_wp2_with fail
      simp only [Exit.jump]
      go_ret2
      exact ⟨⟨v, ps, rfl, HU6.out, HU7.out⟩, U5⟩
  · intro hp
    go_wp2_with (go_at_call 167; refine (asV (check_any _ _ _ _ (by unfold maxLen; omega)) (by rw [HE.out])).mono ?_; rintro e w' ⟨rfl, rfl⟩)
    go_step3
    simp only [Exit.then]
    rename_i hK
    refine hK _ _ (hp _ _ ?_)
    exact ⟨0, .slice none 0 0, fun _ => ⟨0, none, 0, 0, fun _ => 0⟩, Nat.zero_le _, Below.refl _ _, ⟨rfl, Or.inl ⟨rfl, rfl⟩⟩, fun i hi => absurd hi (by simp [runs]), Or.inl rfl, _, _, _, _, _, _, _, _, _, _, _, _, _, _, _, _, _, _, _, _, _, _, _, _, _, _, _, _, _, _, _, _, rfl⟩
end Go.Proofs.YtleofglnlfpoeaaGreat
namespace Go.Proofs.YtleofglnlfpoeaaGreat
open Go.RowKit
set_option linter.unusedVariables false
set_option linter.unusedSimpArgs false
set_option maxRecDepth 100000
theorem make_room (n : Nat) (hn : n ≤ 16777216) (w : World) : ∃ cur, cur.size = n ∧ (Instr.makeSlice 22 (.int .i64 0) (.int .i64 (n : Int))).run Tryz.prog w = .ok (.slice (some ⟨w.heap.size, 0, none⟩) 0 n) (w.alloc (.cells cur 5)) := by
  obtain ⟨i, hi, hzz⟩ := Option.map_eq_some_iff.1 u8_info'
  simp only [Prod.mk.injEq] at hzz
  obtain ⟨hz, hs, hb⟩ := hzz
  have h := run_makeSlice (P := Tryz.prog) w 22 5 i _ Tryz.underlying22 hi hz .i64 .i64 0 n (by omega) (by omega) (by rw [hs]; simp; omega) (by rw [hb]; omega) (by omega)
  refine ⟨_, ?_, h⟩
  simp [madeCells, hs]
theorem intsOf_congr (z z' : Nat → Int) (n : Nat) (h : ∀ i, i < n → z i = z' i) : intsOf .u8 z n = intsOf .u8 z' n := by
  unfold intsOf
  apply List.map_congr_left
  intro i hi
  rw [h i (by simpa using hi)]
theorem arr_row {w : World} {g : Nat} {z : Nat → Int} (h : Blk w g 168 (arr z)) (hw : ∀ i, i < 64 → (Lit.int .u8 (z i)).wf = true) : IRow w .u8 (some ⟨g, 0, none⟩) 64 z := fun i hi =>
  ⟨_, rfl, h.lt, by rw [add_zero_block, h.cell i]; exact arr_at z i hi, hw i hi⟩
def PiecesR (f : Nat → Int) (w : World) (e : Ending) (w' : World) : Prop :=
  (∃ v ps B, e = .returned v ∧ w'.ownsRow B 131 2 v (runs f 8192).length (cellsP ps (runs f 8192).length) ∧ PL w' f (runs f 8192) ps) ∧ Below w.heap.size w w'
set_option maxHeartbeats 2000000 in
theorem rpieces_any {w : World} {v : Value} {f : Nat → Int} (h : RA w v f) (hf : ∀ i, i < 8192 → (Lit.int .u8 (f i)).wf = true) :
    Calls Tryz.prog 76 #[v] w (PiecesR f w) := by
  obtain ⟨cur, hcs, hmk0⟩ := make_room 8192 (by omega) w
  have hmk : (Instr.makeSlice 22 (.int .i64 0) (.int .i64 8192)).run Tryz.prog w = .ok (.slice (some ⟨w.heap.size, 0, none⟩) 0 8192) (w.alloc (.cells cur 5)) := hmk0
  clear hmk0
  have HH := Lib.hid h
  have HF := Lib.hid hf
  have hz := zero88
  have hst := store_new
  have hsz := arr_size
  have hown0 : (w.alloc (.cells cur 5)).ownsRow w.heap.size 5 1 (.slice (some ⟨w.heap.size, 0, none⟩) 0 8192) 0 (intsOf .u8 f 0) := World.ownsRow_made w cur 8192 (Nat.le_refl _) (by unfold maxLen; omega) (by omega)
  have hB0 : Below w.heap.size w (w.alloc (.cells cur 5)) := (Below.refl _ _).alloc (Nat.le_refl _) _
  have HO := Lib.hid hown0
  have HB := Lib.hid hB0
  clear h hf hown0 hB0 hcs
  go_enter Tryz.func76, Tryz.ntmps76
  go_wp2_with fail
  go_loopw [3, 9] (fun p i wr => ∃ k : Nat, k ≤ 128 ∧ i = .int .i64 k ∧ wr.ownsRow w.heap.size 5 1 p (64 * k) (intsOf .u8 f (64 * k)) ∧ Below w.heap.size w wr) (fun _ i _ => 128 - (intOf i).toNat)
  case atStart => exact ⟨0, by omega, rfl, HO.out, HB.out⟩
  case round =>
    obtain ⟨k, hk, rfl, hown, hB⟩ := hrel
    by_cases hlt : k < 128
    · have i0 : (0 : Int) ≤ (k : Int) := by omega
      have i1 : (k : Int) < 128 := by omega
      have HO1 := Lib.hid hown
      clear hown
      go_wp2_with fail
      refine (block_ra (HH.out.keep hB) k hlt).mono ?_
      rintro e w1 ⟨rfl, h1⟩
      have hB1 := hB.trans (h1.mono hB.size)
      have hown1 : (w1.alloc (.cells (arr fun i => f (64 * k + i)) 168)).ownsRow w.heap.size 5 1 u3 (64 * k) (intsOf .u8 f (64 * k)) :=
        (HO1.out.kept (row := none) ⟨h1.os, h1.tape, h1.output, h1.size, fun i hi _ => h1.block i hi⟩ (by cases u3.ownBlock <;> simp)).alloc _
      have hr1 := arr_row (Blk.new w1 168 (arr fun i => f (64 * k + i))) (fun i hi => HF.out _ (by omega))
      obtain ⟨v2, w2, r2, o2, g2⟩ := more_ints (P := Tryz.prog) (t := 22) (ty := 22) (bytes := 1) (c := 64) Tryz.underlying22 u8_info' (by omega) hown1 hr1 (by omega) (by have := hB1.size; simp; omega)
      have hB2 := (hB1.alloc hB1.size (.cells (arr fun i => f (64 * k + i)) 168)).grown g2 (by have := hB1.size; simp; omega) (fun k h => (hown1.lt k h).1)
      rw [intsOf_cat] at o2
      have o3 : w2.ownsRow w.heap.size 5 1 v2 (64 * (k + 1)) (intsOf .u8 f (64 * (k + 1))) := by
        rw [show 64 * (k + 1) = 64 * k + 64 by omega]
        rw [intsOf_congr f (fun i => if i < 64 * k then f i else f (64 * k + (i - 64 * k))) (64 * k + 64) (fun i hi => by
          by_cases h : i < 64 * k
          · rw [if_pos h]
          · rw [if_neg h]; congr 1; omega)]
        exact o2
      have O3 := Lib.hid o3
      have HB2 := Lib.hid hB2
      clear hown1 hr1 o2 o3 g2 hB2 hB hB1 h1
      unfold bk
      go_wp2_with (at_builtin; refine wpList_append_run rfl (.tmp 15) (.tmp 16) 22 rfl rfl rfl r2 ?_)
      go_roundw
      case rel => exact ⟨k + 1, by omega, by go_num, O3.out, HB2.out⟩
      case measure => simp [intOf]; omega
    · obtain rfl : k = 128 := by omega
      obtain ⟨A, cap, rfl, p1, p2, p3, p4, p5, _⟩ := own_row hown (fun i hi => HF.out i (by omega))
      have hP := pieces_any A 8192 cap f p1 (by omega) (by kernel_rfl) p3
      have HP := Lib.hid hP
      clear hP p3 p4 p5 hown
      go_wp2_with fail
      refine HP.out.mono ?_
      rintro e w3 ⟨⟨v3, ps, rfl, q1, q2⟩, q3⟩
      have Q1 := Lib.hid q1
      have Q2 := Lib.hid q2
      clear q1 q2
      go_wp2_with fail
      go_ret
      exact ⟨⟨_, ps, _, rfl, Q1.out, Q2.out⟩, hB.trans (q3.mono hB.size)⟩
end Go.Proofs.YtleofglnlfpoeaaGreat
namespace Go.Proofs.YtleofglnlfpoeaaGreat
open Go.RowKit
set_option linter.unusedVariables false
set_option linter.unusedSimpArgs false
set_option maxRecDepth 100000
/-- What was told, access by access and field by field. -/
def accF (l : List Acc) (i j : Nat) : Value := ((accC (l.getD i ⟨0, 0, 0, false, 0⟩))[j]?).getD undef
theorem accL_at (l : List Acc) (q : Nat) (h : q < l.length * 5) : (accL l)[q]? = some (accF l (q / 5) (q % 5)) := by
  induction l generalizing q with
  | nil => simp at h
  | cons a l ih =>
    have e : accL (a :: l) = accC a ++ accL l := by simp [accL]
    rw [e]
    have hl : (accC a).length = 5 := rfl
    by_cases hq : q < 5
    · rw [List.getElem?_append_left (by rw [hl]; exact hq)]
      have h1 : q / 5 = 0 := by omega
      have h2 : q % 5 = q := by omega
      rw [h1, h2]
      unfold accF
      show (accC a)[q]? = some (((accC a)[q]?).getD undef)
      rw [List.getElem?_eq_getElem (by rw [hl]; exact hq)]
      rfl
    · rw [List.getElem?_append_right (by rw [hl]; omega), hl, ih (q - 5) (by simp only [List.length_cons] at h; omega)]
      have h1 : q / 5 = (q - 5) / 5 + 1 := by omega
      have h2 : q % 5 = (q - 5) % 5 := by omega
      rw [h1, h2]
      rfl
theorem accL_cells (l : List Acc) : accL l = cellsOf_ 5 (accF l) l.length := by
  apply List.ext_getElem?
  intro q
  by_cases h : q < l.length * 5
  · rw [accL_at l q h, cellsOf_at 5 _ _ q h]
  · rw [List.getElem?_eq_none (by rw [accL_len]; omega), List.getElem?_eq_none (by rw [cellsOf_len]; omega)]
theorem accF_one (l : List Acc) (i j : Nat) (hj : j < 5) : (accF l i j).oneCell' = true := by
  unfold accF accC
  rcases j with _ | _ | _ | _ | _ | j <;> first | rfl | omega
theorem aclone_any {w : World} {A : Option Addr} {n c : Nat} {f : Nat → Nat → Value} (hA : A = none → n = 0 ∧ c = 0) (R : FRow w 5 A n f) (h1 : ∀ i j, i < n → j < 5 → (f i j).oneCell' = true) (hn : n ≤ 1000000) :
    Calls Tryz.prog 61 #[.slice A n c] w fun e w' => ∃ A' cap, e = .returned (.slice A' n cap) ∧ n ≤ cap ∧ cap ≤ maxLen ∧ FRow w' 5 A' n f ∧ Typed w' A' 62 ∧ (A' = none → n = 0 ∧ cap = 0) ∧ Below w.heap.size w w' := by
  cases A with
  | none =>
    obtain ⟨rfl, rfl⟩ := hA rfl
    have hnil := fun W => Lib.run_eql_slice_nil (P := Tryz.prog) W 50 62 none 0 0 0 0 Tryz.underlying50
    clear R hA h1
    go_enter Tryz.func61, Tryz.ntmps61
    go_wp2
    go_ret
    exact ⟨none, 0, rfl, Nat.le_refl _, by unfold maxLen; omega, fun i hi => absurd hi (by omega), Typed.none, by simp, Below.refl _ _⟩
  | some ad =>
    have hnil := fun W => Lib.run_eql_slice_nil (P := Tryz.prog) W 50 62 (some ad) n c 0 0 Tryz.underlying50
    obtain ⟨A, cap, w', hrun, h1, h2, h3, h4, h5, h6⟩ := clone_frow (P := Tryz.prog) (ty := 50) (c := c) Tryz.underlying50 acc_info rfl (by omega) h1 (by omega) (by unfold maxLen; omega) R
    have H3 := Lib.hid h3
    have H5 := Lib.hid h5
    clear h3 h5 R hA
    go_enter Tryz.func61, Tryz.ntmps61
    go_wp2_with (at_builtin; refine wpList_append_run rfl (.tmp 5) (.tmp 6) 50 rfl rfl rfl hrun ?_)
    go_ret
    exact ⟨A, cap, rfl, h1, h2, H3.out, h4, H5.out, h6⟩
def TrcR (l : List Acc) (w : World) (e : Ending) (w' : World) : Prop := ∃ A cap, e = .returned (.slice A l.length cap) ∧ l.length ≤ cap ∧ cap ≤ maxLen ∧ FRow w' 5 A l.length (accF l) ∧ Typed w' A 62 ∧ (A = none → l.length = 0 ∧ cap = 0) ∧ Below w.heap.size w w'
section
variable {w : World} {g : Nat} {d : Hd} {Q : Bp} {s : Bs}
theorem btrace_any (h : BU w g d Q s) (hn : s.tl.length ≤ 1000000) : Calls Tryz.prog 16 #[.pointer (some ⟨g, 0, none⟩)] w (TrcR s.tl w) := by
  have c10 := h.cells.2.2.2.2.2
  have ho := h.tr
  rw [accL_cells] at ho
  obtain ⟨A, cap, hv, h1, h2, h3, h4, h5⟩ := own_frow (by omega) ho
  rw [hv] at c10
  have CL := Lib.hid (aclone_any (c := cap) h5 h3 (fun i j _ hj => accF_one _ i j hj) hn)
  clear h ho hv h1 h2 h3 h4 h5
  obtain ⟨n, hnn⟩ : ∃ n, s.tl.length = n := ⟨_, rfl⟩
  have HN := Lib.hid hnn
  rw [hnn] at c10 CL
  clear hnn
  go_enter Tryz.func16, Tryz.ntmps16
  go_wp2_with fail
  refine CL.out.mono ?_
  rintro e w1 ⟨A', cap', rfl, p1, p2, p3, p4, p5, p6⟩
  have R : Hid (TrcR s.tl w (.returned (.slice A' n cap')) w1) := Lib.hid (by unfold TrcR; rw [HN.out]; exact ⟨A', cap', rfl, p1, p2, p3, p4, p5, p6⟩)
  clear p1 p2 p3 p4 p5 p6
  go_wp2_with fail
  go_ret
  exact R.out
theorem bchoose_any (h : BU w g d Q s) (m : Bool) : Calls Tryz.prog 26 #[.pointer (some ⟨g, 0, none⟩), .bool m] w fun e w' => e = .returned (.int .u8 (s.x.ch d m)) ∧ Below w.heap.size w w' := by
  have c7 := h.cells.2.2.1
  have WK := Lib.hid (bworks_any h)
  have HC := Lib.hid (hchoose_any h.pg m)
  obtain ⟨v, hv⟩ : ∃ v, s.x.ch d m = v := ⟨_, rfl⟩
  rw [hv] at HC ⊢
  clear h hv
  go_enter Tryz.func26, Tryz.ntmps26
  go_wp2_with fail
  refine WK.out.mono ?_
  rintro e w' ⟨rfl, rfl⟩
  go_wp2_with fail
  refine HC.out.mono ?_
  rintro e w1 ⟨rfl, b1⟩
  go_wp2_with fail
  go_ret
  exact ⟨rfl, b1⟩
def Bs.ent (s : Bs) (k : Int) : Bs := if k = 1 then { s with x := s.x.en k, asked := true, next := false } else { s with x := s.x.en k }
theorem bentered_any (h : BU w g d Q s) (k : Int) (k0 : 0 ≤ k) (k1 : k ≤ 255) : Calls Tryz.prog 21 #[.pointer (some ⟨g, 0, none⟩), .int .u8 k] w (BuR (.tuple #[]) g d Q (s.ent k) w) := by
  have c7 := h.cells.2.2.1
  have WK := Lib.hid (bworks_any h)
  have H := Lib.hid h
  clear h
  by_cases e1 : k = 1
  · subst e1
    have es : s.ent 1 = { s with x := s.x.en 1, asked := true, next := false } := by unfold Bs.ent; rw [if_pos rfl]
    rw [es]
    clear es
    go_enter Tryz.func21, Tryz.ntmps21
    go_wp2_with fail
    refine WK.out.mono ?_
    rintro e w' ⟨rfl, rfl⟩
    go_wp2_with fail
    refine (hentered_any H.out.pg 1 k0 k1).mono ?_
    rintro e w1 ⟨rfl, hp1, k1'⟩
    have H1 := Lib.hid (H.out.page (k1'.mono (by simp)) hp1)
    have K1 := Lib.hid (k1'.mono (M := bL g Q) (by simp [bL]))
    clear hp1 k1' c7
    go_wp2_with fail
    refine (bask_any H1.out false).mono ?_
    rintro e w2 ⟨Q2, rfl, h2, k2, f2, q2⟩
    have R := Lib.hid (BuR.then_ (Q1 := Q) K1.out (fun y hy => .inl hy) ⟨rfl, rfl, rfl⟩ (show BuR (.tuple #[]) g d Q _ w1 (.returned (.tuple #[])) w2 from ⟨Q2, rfl, h2, k2, f2, q2⟩))
    clear h2 k2 f2 q2
    go_wp2_with fail
    first | go_end0 | refine bodyPost_ret (results_none rfl _ _ _) rfl ?_
    exact R.out
  · have es : s.ent k = { s with x := s.x.en k } := by unfold Bs.ent; rw [if_neg e1]
    rw [es]
    have n1 : (k == 1) = false := by simpa using e1
    clear es
    go_enter Tryz.func21, Tryz.ntmps21
    go_wp2_with fail
    refine WK.out.mono ?_
    rintro e w' ⟨rfl, rfl⟩
    go_wp2_with fail
    refine (hentered_any H.out.pg k k0 k1).mono ?_
    rintro e w1 ⟨rfl, hp1, k1'⟩
    have R := Lib.hid (BuR.mk0 (v := .tuple #[]) (H.out.page (k1'.mono (by simp)) hp1) (k1'.mono (M := bL g Q) (by simp [bL])))
    clear hp1 k1' c7
    go_wp2_with fail
    first | go_end0 | refine bodyPost_ret (results_none rfl _ _ _) rfl ?_
    exact R.out
theorem bram_any (h : BU w g d Q s) : Calls Tryz.prog 28 #[.pointer (some ⟨g, 0, none⟩)] w (PiecesR s.f w) := by
  have c6 := h.cells.2.1
  have HP := Lib.hid (rpieces_any (w := w) (v := .pointer (some ⟨Q.m, 0, none⟩)) (f := s.f) (.inr ⟨Q.m, Q.mb, rfl, h.ram⟩) (fun i hi => WalkArith.wf_u8 (h.ok.2.2.2.2 i hi)))
  clear h
  go_enter Tryz.func28, Tryz.ntmps28
  go_wp2_with fail
  refine HP.out.mono ?_
  rintro e w1 ⟨⟨v, ps, B, rfl, ho, hp⟩, b1⟩
  have R : Hid (PiecesR s.f w (.returned v) w1) := Lib.hid ⟨⟨v, ps, B, rfl, ho, hp⟩, b1⟩
  clear ho hp b1
  go_wp2_with fail
  go_ret
  exact R.out
end
section
variable (w : World)
theorem bread_nil (a kd : Int) : Calls Tryz.prog 17 #[.pointer none, .int .u32 a, .int .u8 kd] w fun e w' => e = .returned (.int .u8 255) ∧ w = w' := by
  have BG : Calls Tryz.prog 62 #[.pointer none, .int .u32 a] w fun e w' => e = .returned (.tuple #[.int .i64 0, .bool false]) ∧ w = w' := by
    go_enter Tryz.func62, Tryz.ntmps62
    go_wp2_with (go_at_call 44; refine (bworks_nil _).mono ?_; rintro e w' ⟨rfl, rfl⟩)
    go_ret2
    exact ⟨rfl, rfl⟩
  have HB := Lib.hid BG
  clear BG
  go_enter Tryz.func17, Tryz.ntmps17
  go_wp2_with fail
  refine HB.out.mono ?_
  rintro e w' ⟨rfl, rfl⟩
  go_wp2_with fail
  go_ret
  exact ⟨rfl, rfl⟩
theorem bwrite_nil (a v kd : Int) : Calls Tryz.prog 18 #[.pointer none, .int .u32 a, .int .u8 v, .int .u8 kd] w fun e w' => e = .returned (.tuple #[]) ∧ w = w' := by
  have BG : Calls Tryz.prog 62 #[.pointer none, .int .u32 a] w fun e w' => e = .returned (.tuple #[.int .i64 0, .bool false]) ∧ w = w' := by
    go_enter Tryz.func62, Tryz.ntmps62
    go_wp2_with (go_at_call 44; refine (bworks_nil _).mono ?_; rintro e w' ⟨rfl, rfl⟩)
    go_ret2
    exact ⟨rfl, rfl⟩
  have HB := Lib.hid BG
  clear BG
  go_enter Tryz.func18, Tryz.ntmps18
  go_wp2_with fail
  refine HB.out.mono ?_
  rintro e w' ⟨rfl, rfl⟩
  go_wp2_with fail
  first | go_end0 | refine bodyPost_ret (results_none rfl _ _ _) rfl ?_
  exact ⟨rfl, rfl⟩
theorem bask_nil (x : Bool) : Calls Tryz.prog 19 #[.pointer none, .bool x] w fun e w' => e = .returned (.tuple #[]) ∧ w = w' := by
  go_enter Tryz.func19, Tryz.ntmps19
  go_wp2_with (go_at_call 44; refine (bworks_nil _).mono ?_; rintro e w' ⟨rfl, rfl⟩)
  first | go_end0 | refine bodyPost_ret (results_none rfl _ _ _) rfl ?_
  exact ⟨rfl, rfl⟩
theorem bturn_nil : Calls Tryz.prog 20 #[.pointer none] w fun e w' => e = .returned (.tuple #[]) ∧ w = w' := by
  go_enter Tryz.func20, Tryz.ntmps20
  go_wp2_with (go_at_call 44; refine (bworks_nil _).mono ?_; rintro e w' ⟨rfl, rfl⟩)
  first | go_end0 | refine bodyPost_ret (results_none rfl _ _ _) rfl ?_
  exact ⟨rfl, rfl⟩
theorem bentered_nil (k : Int) : Calls Tryz.prog 21 #[.pointer none, .int .u8 k] w fun e w' => e = .returned (.tuple #[]) ∧ w = w' := by
  go_enter Tryz.func21, Tryz.ntmps21
  go_wp2_with (go_at_call 44; refine (bworks_nil _).mono ?_; rintro e w' ⟨rfl, rfl⟩)
  first | go_end0 | refine bodyPost_ret (results_none rfl _ _ _) rfl ?_
  exact ⟨rfl, rfl⟩
theorem bpeek_nil (a : Int) : Calls Tryz.prog 24 #[.pointer none, .int .u32 a] w fun e w' => e = .returned (.int .u8 255) ∧ w = w' := by
  go_enter Tryz.func24, Tryz.ntmps24
  go_wp2_with (go_at_call 44; refine (bworks_nil _).mono ?_; rintro e w' ⟨rfl, rfl⟩)
  go_ret
  exact ⟨rfl, rfl⟩
theorem bleft_nil : Calls Tryz.prog 23 #[.pointer none] w fun e w' => e = .returned (.int .i64 0) ∧ w = w' := by
  go_enter Tryz.func23, Tryz.ntmps23
  go_wp2_with (go_at_call 44; refine (bworks_nil _).mono ?_; rintro e w' ⟨rfl, rfl⟩)
  go_ret
  exact ⟨rfl, rfl⟩
theorem bchoose_nil (m : Bool) : Calls Tryz.prog 26 #[.pointer none, .bool m] w fun e w' => e = .returned (.int .u8 0) ∧ w = w' := by
  go_enter Tryz.func26, Tryz.ntmps26
  go_wp2_with (go_at_call 44; refine (bworks_nil _).mono ?_; rintro e w' ⟨rfl, rfl⟩)
  go_ret
  exact ⟨rfl, rfl⟩
theorem bnow_nil : Calls Tryz.prog 22 #[.pointer none] w fun e w' => e = .returned (.int .i64 0) ∧ w = w' := by
  go_enter Tryz.func22, Tryz.ntmps22
  go_wp2
  go_ret
  exact ⟨rfl, rfl⟩
theorem bover_nil : Calls Tryz.prog 25 #[.pointer none] w fun e w' => e = .returned (.bool false) ∧ w = w' := by
  go_enter Tryz.func25, Tryz.ntmps25
  go_wp2
  go_ret
  exact ⟨rfl, rfl⟩
theorem bfast_nil : Calls Tryz.prog 27 #[.pointer none] w fun e w' => e = .returned (.bool false) ∧ w = w' := by
  go_enter Tryz.func27, Tryz.ntmps27
  go_wp2
  go_ret
  exact ⟨rfl, rfl⟩
theorem bclone_nil : Calls Tryz.prog 12 #[.pointer none] w fun e w' => e = .returned (.pointer none) ∧ w = w' := by
  go_enter Tryz.func12, Tryz.ntmps12
  go_wp2
  go_ret
  exact ⟨rfl, rfl⟩
theorem btrace_nil : Calls Tryz.prog 16 #[.pointer none] w fun e w' => e = .returned (.slice none 0 0) ∧ w = w' := by
  go_enter Tryz.func16, Tryz.ntmps16
  go_wp2
  go_ret
  exact ⟨rfl, rfl⟩
theorem bram_nil : Calls Tryz.prog 28 #[.pointer none] w fun e w' => e = .returned (.slice none 0 0) ∧ w = w' := by
  go_enter Tryz.func28, Tryz.ntmps28
  go_wp2
  go_ret
  exact ⟨rfl, rfl⟩
end
end Go.Proofs.YtleofglnlfpoeaaGreat
