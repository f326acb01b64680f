/-
  Texts of these proofs, one behind the other: Wav7, Wav8.
-/
import Derived.Test.YtaamfcbpelbboaaDoorKM26
import Derived.Test.YtaamfcbpelbboaaDoorKM15
namespace Go.Proofs.YtaamfcbpelbboaaDoor
open Go.RowKit
set_option linter.unusedVariables false
set_option linter.unusedSimpArgs false
set_option maxRecDepth 100000
def RCNewR (x : Cw) (w : World) (e : Ending) (w' : World) : Prop := ∃ r n, e = .returned (.pointer (some ⟨r, 0, none⟩)) ∧ (w.heap.size ≤ r ∧ w.heap.size ≤ n) ∧ RCW w' r n x ∧ Below w.heap.size w w'
def rnewA (n : Nat) : List (Nat × Value) := [(8, .pointer (some ⟨n, 0, none⟩)), (9, .int .i64 4096)]
theorem rnew_built (n : Nat) : Tryd.prog.built 77 (rnewA n) = some (rchC n Cw.new) := by kernel_rfl
set_option maxHeartbeats 2000000 in
theorem rcnew_any (w : World) : Calls Tryd.prog 32 #[] w (RCNewR Cw.new w) := by
  go_enter Tryd.func32, Tryd.ntmps32
  go_wp2_with fail
  refine (rnnew_any 0 _ (by decide) (by decide)).mono ?_
  rintro e w1 ⟨rfl, h1, b1⟩
  have H1 := Lib.hid h1
  have B1 := Lib.hid b1
  have hl := b1.size
  clear h1 b1
  generalize hn : w.heap.size = n at *
  have HN := Lib.hid hn
  clear hn
  go_wp2_with (refine wpList_build rfl 77 _ rfl (rnewA n) (by rfl) (rchC n Cw.new) (rnew_built n) ?_)
  go_ret
  have b2 : Below w1.heap.size w1 (w1.alloc (.cells (rchC n Cw.new) 77)) := (Below.refl _ _).alloc (Nat.le_refl _) _
  exact ⟨w1.heap.size, n, rfl, by rw [HN.out]; exact ⟨hl, Nat.le_refl _⟩, ⟨Blk.new w1 _ _, H1.out.keep b2 H1.out.lt, Cw.new_ok⟩, by rw [HN.out]; exact B1.out.alloc hl _⟩
def rcopyA (n : Nat) (x : Cw) : List (Nat × Value) := [(0, .int .i64 x.fq), (1, .int .i64 x.pl), (2, .int .i64 x.bd), (3, .int .u8 x.ct), (4, .int .u8 x.bl), (5, .int .u8 x.td), (6, .agg (intsOf .u8 x.wv 32).toArray), (7, .bool x.ns), (8, .pointer (some ⟨n, 0, none⟩)), (9, .int .i64 x.left)]
theorem rcopy_built (n : Nat) (x : Cw) : Tryd.prog.built 77 (rcopyA n x) = some (rchC n x) := by kernel_rfl
theorem exec_load_mid {P : Program} {o : Oper} {ρ : Operand → Value} {w : World} (ty : TypeId) (x : Operand) (ho : o.op = .load ty x) (b f : Nat) (hx : ρ x = .pointer (some ⟨b, f, none⟩)) (cs : List Value) (d : TypeDesc)
    (hc : w.rangeAt b f cs) (hu : P.underlying ty = some d) (hd : d.isRow = true) (hi : (P.info? ty).map (·.size) = some cs.length) : (execOp ρ o).run P w = .ok (.value (.agg cs.toArray)) w := by
  unfold execOp
  simp only [ho, hx, Instr.loadAt, Instr.sureAddr, Sem.run_bind, Sem.run_pure, Result.andThen_ok, run_loadVar_mid w b f ty cs d hc hu hd hi]
theorem exec_build {P : Program} {o : Oper} {ρ : Operand → Value} {w : World} (t : TypeId) (parts : Array (Nat × Operand)) (ho : o.op = .build t parts) (l : List (Nat × Value)) (hl : (parts.map fun (i, x) => (i, ρ x)).toList = l) (cs : Array Value) (hb : P.built t l = some cs) : (execOp ρ o).run P w = .ok (.value (.agg cs)) w := by
  subst hl
  unfold execOp
  simp only [ho]
  rw [Sem.run_bind, run_build w t _ cs hb]
  rfl
section
variable {w : World} {r n : Nat} {x : Cw}
end
end Go.Proofs.YtaamfcbpelbboaaDoor
namespace Go.Proofs.YtaamfcbpelbboaaDoor
open Go.RowKit
set_option linter.unusedVariables false
set_option linter.unusedSimpArgs false
set_option maxRecDepth 100000
section
variable {w : World} {r n : Nat} {x : Cw}
theorem rcw2_any (h : RCW w r n x) (b : Nat) (hb : b < 256) : Calls Tryd.prog 34 #[.pointer (some ⟨r, 0, none⟩), .int .i64 2, .int .u8 b] w (RcR r n { x with fq := x.fq / 256 * 256 + b } w) := by
  have c0 : w.cell? ⟨r, 0, none⟩ = some (.int .i64 x.fq) := h.cell 0 (by decide)
  have f0 := h.1.frozen 0
  have hf := h.2.2.2.2.1
  obtain ⟨q1, q2⟩ := h.put (y := { x with fq := x.fq / 256 * 256 + b }) 0 (.int .i64 ((x.fq / 256 * 256 + b : Nat) : Int)) (fun j hj => by
    by_cases e : j = 0
    · subst e; rfl
    · rw [if_neg e]; unfold rchV; dsimp only; simp only [if_neg e]) ⟨h.2.2.1, h.2.2.2.1, by dsimp only; omega, h.2.2.2.2.2⟩ rfl
  have i1 : ((x.fq / 256 * 256 + b : Nat) : Int) = (x.fq : Int) / 256 * 256 + (b : Int) := by omega
  rw [i1] at q1 q2
  have Q1 := Lib.hid q1
  have Q2 := Lib.hid (q2.mono (M := [r, n]) (by simp))
  clear h q1 q2 i1
  go_enter Tryd.func34, Tryd.ntmps34
  go_wp2
  first | go_end0 | refine bodyPost_ret (results_none rfl _ _ _) rfl ?_
  exact ⟨rfl, Q1.out, Q2.out⟩
theorem rcw3_any (h : RCW w r n x) (b : Nat) (hb : b < 256) : Calls Tryd.prog 34 #[.pointer (some ⟨r, 0, none⟩), .int .i64 3, .int .u8 b] w (RcR r n { x with fq := b % 16 * 256 + x.fq % 256 } w) := by
  have c0 : w.cell? ⟨r, 0, none⟩ = some (.int .i64 x.fq) := h.cell 0 (by decide)
  have f0 := h.1.frozen 0
  have hf := h.2.2.2.2.1
  obtain ⟨q1, q2⟩ := h.put (y := { x with fq := b % 16 * 256 + x.fq % 256 }) 0 (.int .i64 ((b % 16 * 256 + x.fq % 256 : Nat) : Int)) (fun j hj => by
    by_cases e : j = 0
    · subst e; rfl
    · rw [if_neg e]; unfold rchV; dsimp only; simp only [if_neg e]) ⟨h.2.2.1, h.2.2.2.1, by dsimp only; omega, h.2.2.2.2.2⟩ rfl
  have i1 : ((b % 16 * 256 + x.fq % 256 : Nat) : Int) = (b : Int) % 16 * 256 + (x.fq : Int) % 256 := by omega
  rw [i1] at q1 q2
  have Q1 := Lib.hid q1
  have Q2 := Lib.hid (q2.mono (M := [r, n]) (by simp))
  clear h q1 q2 i1
  go_enter Tryd.func34, Tryd.ntmps34
  go_wp2
  first | go_end0 | refine bodyPost_ret (results_none rfl _ _ _) rfl ?_
  exact ⟨rfl, Q1.out, Q2.out⟩
theorem rcw5_any (h : RCW w r n x) (b : Int) (b0 : 0 ≤ b) (b1 : b ≤ 255) : Calls Tryd.prog 34 #[.pointer (some ⟨r, 0, none⟩), .int .i64 5, .int .u8 b] w (RcR r n { x with bl := b } w) := by
  have c4 : w.cell? ⟨r, 4, none⟩ = some (.int .u8 x.bl) := h.cell 4 (by decide)
  have f4 := h.1.frozen 4
  obtain ⟨q1, q2⟩ := h.put (y := { x with bl := b }) 4 (.int .u8 b) (fun j hj => by
    by_cases e : j = 4
    · subst e; rfl
    · rw [if_neg e]; unfold rchV; dsimp only; simp only [if_neg e]) ⟨h.2.2.1, h.2.2.2.1, h.2.2.2.2.1, h.2.2.2.2.2.1, h.2.2.2.2.2.2.1, h.2.2.2.2.2.2.2.1, ⟨b0, b1⟩, h.2.2.2.2.2.2.2.2.2⟩ rfl
  have Q1 := Lib.hid q1
  have Q2 := Lib.hid (q2.mono (M := [r, n]) (by simp))
  clear h q1 q2
  go_enter Tryd.func34, Tryd.ntmps34
  go_wp2
  first | go_end0 | refine bodyPost_ret (results_none rfl _ _ _) rfl ?_
  exact ⟨rfl, Q1.out, Q2.out⟩
theorem rcw0_any (h : RCW w r n x) (q b : Int) (hr : ¬ q = 2 ∧ ¬ q = 3 ∧ ¬ q = 4 ∧ ¬ q = 5 ∧ ¬ q = 6 ∧ ¬ q = 7) : Calls Tryd.prog 34 #[.pointer (some ⟨r, 0, none⟩), .int .i64 q, .int .u8 b] w (RcR r n x w) := by
  obtain ⟨r2, r3, r4, r5, r6, r7⟩ := hr
  have H := Lib.hid h
  have j2 : (q == 2) = false := by simpa using r2
  have j3 : (q == 3) = false := by simpa using r3
  have j4 : (q == 4) = false := by simpa using r4
  have j5 : (q == 5) = false := by simpa using r5
  have j6 : (q == 6) = false := by simpa using r6
  have j7 : (q == 7) = false := by simpa using r7
  clear h
  go_enter Tryd.func34, Tryd.ntmps34
  go_wp2
  first | go_end0 | refine bodyPost_ret (results_none rfl _ _ _) rfl ?_
  exact ⟨rfl, H.out, Kp.refl _ _⟩
theorem rcw7_any (h : RCW w r n x) (b : Int) (b0 : 0 ≤ b) (b1 : b ≤ 255) : Calls Tryd.prog 34 #[.pointer (some ⟨r, 0, none⟩), .int .i64 7, .int .u8 b] w (RcR r n { x with nz := x.nz.set b, ns := bitB b 7 } w) := by
  have c38 : w.cell? ⟨r, 38, none⟩ = some (.bool x.ns) := h.cell 38 (by decide)
  have f38 := h.1.frozen 38
  obtain ⟨B, hB⟩ : ∃ B, bitB b 7 = B := ⟨_, rfl⟩
  have hB2 := bit7_eq b0 b1
  rw [hB] at hB2 ⊢
  obtain ⟨q1, q2⟩ := h.put (y := { x with ns := B }) 38 (.bool B) (fun j hj => by
    by_cases e : j = 38
    · subst e; rfl
    · rw [if_neg e]
      by_cases e2 : j < 38
      · unfold rchV; dsimp only; simp only [if_pos e2]
      · have : j = 39 ∨ j = 40 := by omega
        rcases this with rfl | rfl <;> rfl) h.2.2 rfl
  have d39 : (w.setCell ⟨r, 38, none⟩ (.bool B)).cell? ⟨r, 39, none⟩ = some (.pointer (some ⟨n, 0, none⟩)) := q1.cell 39 (by decide)
  obtain ⟨n0, n1, n2⟩ := q1.2.1.cells
  have fn := q1.2.1.1.frozen 2
  obtain ⟨p1, p2⟩ := q1.2.1.put (k := 2) (v := .int .u8 b) (x' := x.nz.set b) rfl (Nz.set_ok q1.2.1.2 b0 b1)
  have Z1 := Lib.hid (q1.noise p1 p2)
  have Z2 := Lib.hid ((q2.mono (M := [r, n]) (by simp)).trans (p2.mono (M := [r, n]) (by simp)) (by simp))
  subst hB2
  clear h q1 q2 p1 p2 hB n0 n1
  go_enter Tryd.func34, Tryd.ntmps34
  go_wp2
  first | go_end0 | refine bodyPost_ret (results_none rfl _ _ _) rfl ?_
  exact ⟨rfl, Z1.out, Z2.out⟩
theorem rcw4_any (h : RCW w r n x) (b : Int) (b0 : 0 ≤ b) (b1 : b ≤ 255) : Calls Tryd.prog 34 #[.pointer (some ⟨r, 0, none⟩), .int .i64 4, .int .u8 b] w (RcR r n { x with ct := b, pl := if bitB b 6 && !bitB b 7 then 0 else x.pl } w) := by
  have c3 : w.cell? ⟨r, 3, none⟩ = some (.int .u8 x.ct) := h.cell 3 (by decide)
  have f3 := h.1.frozen 3
  obtain ⟨q1, q2⟩ := h.put (y := { x with ct := b }) 3 (.int .u8 b) (fun j hj => by
    by_cases e : j = 3
    · subst e; rfl
    · rw [if_neg e]; unfold rchV; dsimp only; simp only [if_neg e]) ⟨h.2.2.1, h.2.2.2.1, h.2.2.2.2.1, h.2.2.2.2.2.1, h.2.2.2.2.2.2.1, ⟨b0, b1⟩, h.2.2.2.2.2.2.2.2⟩ rfl
  obtain ⟨Y, hY⟩ : ∃ Y : Cw, Y = { x with ct := b, pl := if bitB b 6 && !bitB b 7 then 0 else x.pl } := ⟨_, rfl⟩
  rw [← hY]
  have l1 := bit6_eq b0 b1
  have l2 := bit7_eq b0 b1
  have Q1 := Lib.hid q1
  have Q2 := Lib.hid (q2.mono (M := [r, n]) (by simp))
  by_cases h1 : b / 64 = 1
  · have e : Y = { x with ct := b, pl := 0 } := by rw [hY, l1, l2, decide_eq_true (by omega), decide_eq_false (by omega)]; rfl
    have c1 : (w.setCell ⟨r, 3, none⟩ (.int .u8 b)).cell? ⟨r, 1, none⟩ = some (.int .i64 x.pl) := q1.cell 1 (by decide)
    have f1 := q1.1.frozen 1
    obtain ⟨p1, p2⟩ := q1.put (y := { x with ct := b, pl := 0 }) 1 (.int .i64 0) (fun j hj => by
      by_cases e : j = 1
      · subst e; rfl
      · rw [if_neg e]; unfold rchV; dsimp only; simp only [if_neg e]) ⟨q1.2.2.1, by dsimp only; decide, q1.2.2.2.2⟩ rfl
    have P1 := Lib.hid p1
    have P2 := Lib.hid (Q2.out.trans (p2.mono (M := [r, n]) (by simp)) (by simp))
    have E := Lib.hid e
    clear h q1 q2 p1 p2 e hY l1 l2
    go_enter Tryd.func34, Tryd.ntmps34
    go_wp2
    first | go_end0 | refine bodyPost_ret (results_none rfl _ _ _) rfl ?_
    exact ⟨rfl, by rw [E.out]; exact P1.out, P2.out⟩
  · have e : Y = { x with ct := b } := by
      rw [hY, l1, l2]
      have : (decide (b / 64 % 2 = 1) && !decide (128 ≤ b)) = false := by
        by_cases q1 : 128 ≤ b
        · rw [decide_eq_true q1]; simp
        · rw [decide_eq_false (by omega : ¬ b / 64 % 2 = 1)]; rfl
      rw [this]; rfl
    have j1 : (b / 64 == 1) = false := by simpa using h1
    have E := Lib.hid e
    clear h q1 q2 e hY l1 l2
    go_enter Tryd.func34, Tryd.ntmps34
    go_wp2
    first | go_end0 | refine bodyPost_ret (results_none rfl _ _ _) rfl ?_
    exact ⟨rfl, by rw [E.out]; exact Q1.out, Q2.out⟩
set_option maxHeartbeats 2000000 in
theorem rcw6_any (h : RCW w r n x) (b : Int) (b0 : 0 ≤ b) (b1 : b ≤ 255) : Calls Tryd.prog 34 #[.pointer (some ⟨r, 0, none⟩), .int .i64 6, .int .u8 b] w (RcR r n (x.take (b % 32)) w) := by
  have c3 : w.cell? ⟨r, 3, none⟩ = some (.int .u8 x.ct) := h.cell 3 (by decide)
  have l2 := (lvl_cases h.2.2).2
  obtain ⟨_, a1, _, _, _, ⟨t0, t1⟩, _⟩ := h.2.2
  obtain ⟨l, hl⟩ : ∃ l, b % 32 = l := ⟨_, rfl⟩
  have g0 : 0 ≤ l := by omega
  have g1 : l ≤ 255 := by omega
  rw [hl]
  by_cases ht : x.ct / 64 % 2 = 1
  · have e : x.take l = { x with td := l } := by unfold Cw.take; rw [if_pos (by rw [l2]; exact decide_eq_true ht)]
    have ok := Cw.take_ok h.2.2 g0 g1
    rw [e] at ok ⊢
    have c5 : w.cell? ⟨r, 5, none⟩ = some (.int .u8 x.td) := h.cell 5 (by decide)
    have f5 := h.1.frozen 5
    obtain ⟨q1, q2⟩ := h.put (y := { x with td := l }) 5 (.int .u8 l) (fun j hj => by
      by_cases e : j = 5
      · subst e; rfl
      · rw [if_neg e]; unfold rchV; dsimp only; simp only [if_neg e]) ok rfl
    have d3 : (w.setCell ⟨r, 5, none⟩ (.int .u8 l)).cell? ⟨r, 3, none⟩ = some (.int .u8 x.ct) := q1.cell 3 (by decide)
    have Q1 := Lib.hid q1
    have Q2 := Lib.hid (q2.mono (M := [r, n]) (by simp))
    clear h q1 q2 e ok l2
    go_enter Tryd.func34, Tryd.ntmps34
    go_wp2
    first | go_end0 | refine bodyPost_ret (results_none rfl _ _ _) rfl ?_
    exact ⟨rfl, Q1.out, Q2.out⟩
  · have e : x.take l = { x with wv := fun i => if i = x.pl then l else x.wv i, pl := (x.pl + 1) % 32 } := by unfold Cw.take; rw [if_neg (by rw [l2, decide_eq_false ht]; simp)]
    have ok := Cw.take_ok h.2.2 g0 g1
    rw [e] at ok
    obtain ⟨Y, hY⟩ : ∃ Y, x.take l = Y := ⟨_, rfl⟩
    rw [hY] at e ⊢
    have j0 : x.ct / 64 % 2 = 0 := by omega
    have c1 : w.cell? ⟨r, 1, none⟩ = some (.int .i64 x.pl) := h.cell 1 (by decide)
    have cw : w.cell? ⟨r, 6 + x.pl, none⟩ = some (.int .u8 (x.wv x.pl)) := h.wave x.pl a1
    have fw := h.1.frozen (6 + x.pl)
    obtain ⟨q1, q2⟩ := h.put (y := { x with wv := fun i => if i = x.pl then l else x.wv i }) (6 + x.pl) (.int .u8 l) (fun j hj => by
      unfold rchV; dsimp only
      by_cases e : j = 6 + x.pl
      · subst e
        rw [if_pos rfl, if_neg (by omega), if_neg (by omega), if_neg (by omega), if_neg (by omega), if_neg (by omega), if_neg (by omega), if_pos (by omega), if_pos (by omega)]
      · rw [if_neg e]
        by_cases e2 : 6 ≤ j ∧ j < 38
        · simp only [if_neg (show ¬ j = 0 by omega), if_neg (show ¬ j = 1 by omega), if_neg (show ¬ j = 2 by omega), if_neg (show ¬ j = 3 by omega), if_neg (show ¬ j = 4 by omega), if_neg (show ¬ j = 5 by omega), if_pos (show j < 38 by omega)]
          rw [if_neg (by omega : ¬ j - 6 = x.pl)]
        · by_cases e3 : j < 6
          · have : j = 0 ∨ j = 1 ∨ j = 2 ∨ j = 3 ∨ j = 4 ∨ j = 5 := by omega
            rcases this with rfl | rfl | rfl | rfl | rfl | rfl <;> rfl
          · simp only [if_neg (show ¬ j = 0 by omega), if_neg (show ¬ j = 1 by omega), if_neg (show ¬ j = 2 by omega), if_neg (show ¬ j = 3 by omega), if_neg (show ¬ j = 4 by omega), if_neg (show ¬ j = 5 by omega), if_neg (show ¬ j < 38 by omega)]) ⟨h.2.2.1, h.2.2.2.1, ok.2.2⟩ rfl
    have i0 : (0 : Int) ≤ (x.pl : Int) := by omega
    have i1 : (x.pl : Int) < 32 := by omega
    have d1 : (w.setCell ⟨r, 6 + x.pl, none⟩ (.int .u8 l)).cell? ⟨r, 1, none⟩ = some (.int .i64 x.pl) := q1.cell 1 (by decide)
    have f1 := q1.1.frozen 1
    have i2 : (((x.pl + 1) % 32 : Nat) : Int) = ((x.pl : Int) + 1) % 32 := by omega
    have q3 : RCW (w.setCell ⟨r, 6 + x.pl, none⟩ (.int .u8 l)).drew r n { x with wv := fun i => if i = x.pl then l else x.wv i } := q1.kp0 (Kp.refl _ _).drew
    obtain ⟨p1, p2⟩ := q3.put (y := { x with wv := fun i => if i = x.pl then l else x.wv i, pl := (x.pl + 1) % 32 }) 1 (.int .i64 (((x.pl + 1) % 32 : Nat) : Int)) (fun j hj => by
      by_cases e : j = 1
      · subst e; rfl
      · rw [if_neg e]; unfold rchV; dsimp only; simp only [if_neg e]) ok rfl
    rw [i2] at p1 p2
    have P1 := Lib.hid p1
    have P2 := Lib.hid (((q2.mono (M := [r, n]) (by simp)).drew).trans (p2.mono (M := [r, n]) (by simp)) (by simp))
    have E := Lib.hid e
    clear h q1 q2 q3 p1 p2 e ok l2 hY i2
    go_enter Tryd.func34, Tryd.ntmps34
    go_wp2_with fail
    go_region
    all_goals
      go_wp2_with fail
      first | go_end0 | refine bodyPost_ret (results_none rfl _ _ _) rfl ?_
      exact ⟨rfl, by rw [E.out]; exact P1.out, P2.out⟩
theorem rcwrite_any (h : RCW w r n x) (q b : Int) (b0 : 0 ≤ b) (b1 : b ≤ 255) : Calls Tryd.prog 34 #[.pointer (some ⟨r, 0, none⟩), .int .i64 q, .int .u8 b] w (RcR r n (x.wr q b) w) := by
  obtain ⟨B, rfl⟩ := Int.eq_ofNat_of_zero_le b0
  unfold Cw.wr
  split
  · rename_i e; subst e; exact rcw2_any h B (by omega)
  split
  · rename_i e; subst e; rw [show ((B : Int) % 16).toNat = B % 16 by omega]; exact rcw3_any h B (by omega)
  split
  · rename_i e; subst e; exact rcw4_any h _ b0 b1
  split
  · rename_i e; subst e; exact rcw5_any h _ b0 b1
  split
  · rename_i e; subst e; exact rcw6_any h _ b0 b1
  split
  · rename_i e; subst e; exact rcw7_any h _ b0 b1
  · exact rcw0_any h q _ ⟨by assumption, by assumption, by assumption, by assumption, by assumption, by assumption⟩
end
end Go.Proofs.YtaamfcbpelbboaaDoor
