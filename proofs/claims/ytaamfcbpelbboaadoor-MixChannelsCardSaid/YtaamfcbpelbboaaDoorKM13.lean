/-
  Texts of these proofs, one behind the other: Wav3, Wav4.
-/
import Derived.Test.YtaamfcbpelbboaaDoorKM12
import Derived.Test.YtaamfcbpelbboaaDoorKM06
import Derived.Deep.MidRow
import Derived.Laws.CopyOwn
namespace Go.Proofs.YtaamfcbpelbboaaDoor
open Go.RowKit
set_option linter.unusedVariables false
set_option linter.unusedSimpArgs false
set_option maxRecDepth 100000
section
variable {w : World} {g : Nat} {x : Cw}
theorem cw2_any (h : CW w g x) (b : Nat) (hb : b < 256) : Calls Tryd.prog 45 #[.pointer (some ⟨g, 0, none⟩), .int .i64 2, .int .u8 b] w (ChR (.tuple #[]) g { x with fq := x.fq / 256 * 256 + b } w) := by
  have c36 : w.cell? ⟨g, 36, none⟩ = some (.int .i64 x.fq) := h.cell 36 (by decide)
  have f36 := h.1.frozen 36
  have hf := h.2.2.2.1
  have e1 := fq_low x.fq b hf hb
  obtain ⟨q1, q2⟩ := h.put (y := { x with fq := x.fq / 256 * 256 + b }) 36 (.int .i64 ((x.fq / 256 * 256 + b : Nat) : Int)) (fun j hj => by
    by_cases e : j = 36
    · subst e; rfl
    · rw [if_neg e]; unfold chV; dsimp only; simp only [if_neg e]) ⟨h.2.1, h.2.2.1, by dsimp only; omega, h.2.2.2.2⟩
  generalize x.fq / 256 * 256 + b = F at *
  have Q1 := Lib.hid q1
  have Q2 := Lib.hid q2
  clear h q1 q2
  go_enter Tryd.func45, Tryd.ntmps45
  go_wp2
  first | go_end0 | refine bodyPost_ret (results_none rfl _ _ _) rfl ?_
  exact ⟨rfl, Q1.out, Q2.out⟩
theorem cw3_any (h : CW w g x) (b : Nat) (hb : b < 256) : Calls Tryd.prog 45 #[.pointer (some ⟨g, 0, none⟩), .int .i64 3, .int .u8 b] w (ChR (.tuple #[]) g { x with fq := b % 16 * 256 + x.fq % 256 } w) := by
  have c36 : w.cell? ⟨g, 36, none⟩ = some (.int .i64 x.fq) := h.cell 36 (by decide)
  have f36 := h.1.frozen 36
  have hf := h.2.2.2.1
  have e1 := fq_high x.fq (b % 16) hf (by omega)
  obtain ⟨q1, q2⟩ := h.put (y := { x with fq := b % 16 * 256 + x.fq % 256 }) 36 (.int .i64 ((b % 16 * 256 + x.fq % 256 : Nat) : Int)) (fun j hj => by
    by_cases e : j = 36
    · subst e; rfl
    · rw [if_neg e]; unfold chV; dsimp only; simp only [if_neg e]) ⟨h.2.1, h.2.2.1, by dsimp only; omega, h.2.2.2.2⟩
  generalize b % 16 * 256 + x.fq % 256 = F at *
  have e2 : ((b % 16 * 256 : Nat) : Int) = (b : Int) % 16 * 256 := by omega
  rw [e2] at e1
  clear e2
  have Q1 := Lib.hid q1
  have Q2 := Lib.hid q2
  clear h q1 q2
  go_enter Tryd.func45, Tryd.ntmps45
  go_wp2
  first | go_end0 | refine bodyPost_ret (results_none rfl _ _ _) rfl ?_
  exact ⟨rfl, Q1.out, Q2.out⟩
theorem cw5_any (h : CW w g x) (b : Int) (b0 : 0 ≤ b) (b1 : b ≤ 255) : Calls Tryd.prog 45 #[.pointer (some ⟨g, 0, none⟩), .int .i64 5, .int .u8 b] w (ChR (.tuple #[]) g { x with bl := b } w) := by
  have c40 : w.cell? ⟨g, 40, none⟩ = some (.int .u8 x.bl) := h.cell 40 (by decide)
  have f40 := h.1.frozen 40
  obtain ⟨q1, q2⟩ := h.put (y := { x with bl := b }) 40 (.int .u8 b) (fun j hj => by
    by_cases e : j = 40
    · subst e; rfl
    · rw [if_neg e]; unfold chV; dsimp only; simp only [if_neg e]) ⟨h.2.1, h.2.2.1, h.2.2.2.1, h.2.2.2.2.1, h.2.2.2.2.2.1, h.2.2.2.2.2.2.1, ⟨b0, b1⟩, h.2.2.2.2.2.2.2.2⟩
  have Q1 := Lib.hid q1
  have Q2 := Lib.hid q2
  clear h q1 q2
  go_enter Tryd.func45, Tryd.ntmps45
  go_wp2
  first | go_end0 | refine bodyPost_ret (results_none rfl _ _ _) rfl ?_
  exact ⟨rfl, Q1.out, Q2.out⟩
theorem cw6_any (h : CW w g x) (b : Int) (b0 : 0 ≤ b) (b1 : b ≤ 255) : Calls Tryd.prog 45 #[.pointer (some ⟨g, 0, none⟩), .int .i64 6, .int .u8 b] w (ChR (.tuple #[]) g (x.take (b % 32)) w) := by
  have H := Lib.hid h
  clear h
  go_enter Tryd.func45, Tryd.ntmps45
  go_wp2_with fail
  refine (ctake_any H.out (b % 32) (by omega) (by omega)).mono ?_
  rintro e w1 ⟨rfl, y1, k1⟩
  go_wp2_with fail
  first | go_end0 | refine bodyPost_ret (results_none rfl _ _ _) rfl ?_
  exact ⟨rfl, y1, k1⟩
theorem cw7_any (h : CW w g x) (b : Int) (b0 : 0 ≤ b) (b1 : b ≤ 255) : Calls Tryd.prog 45 #[.pointer (some ⟨g, 0, none⟩), .int .i64 7, .int .u8 b] w (ChR (.tuple #[]) g { x with nz := x.nz.set b, ns := bitB b 7 } w) := by
  have c42 : w.cell? ⟨g, 42, none⟩ = some (.bool x.ns) := h.cell 42 (by decide)
  have f42 := h.1.frozen 42
  obtain ⟨B, hB⟩ : ∃ B, bitB b 7 = B := ⟨_, rfl⟩
  obtain ⟨q1, q2⟩ := h.put (y := { x with ns := B }) 42 (.bool B) (fun j hj => by
    by_cases e : j = 42
    · subst e; rfl
    · rw [if_neg e]
      by_cases e2 : j < 35
      · unfold chV; dsimp only; simp only [if_pos e2]
      · have : j = 35 ∨ j = 36 ∨ j = 37 ∨ j = 38 ∨ j = 39 ∨ j = 40 ∨ j = 41 := by omega
        rcases this with rfl | rfl | rfl | rfl | rfl | rfl | rfl <;> rfl) h.2
  have Q1 := Lib.hid q1
  have Q2 := Lib.hid q2
  have HB := Lib.hid hB
  rw [hB]
  clear h q1 q2 hB
  go_enter Tryd.func45, Tryd.ntmps45
  go_wp2_with fail
  refine (bit_any _ _ _).mono ?_
  rw [HB.out]
  rintro e w' ⟨rfl, rfl⟩
  go_wp2_with fail
  obtain ⟨z1, z2⟩ := Q1.out.noise
  refine (nset_any z1 b b0 b1).mono ?_
  rintro e w1 ⟨rfl, y1, k1⟩
  have Y1 := Lib.hid (z2 _ _ y1 k1)
  have K1 := Lib.hid (Q2.out.trans k1 (by simp))
  clear z1 z2 y1 k1
  go_wp2_with fail
  first | go_end0 | refine bodyPost_ret (results_none rfl _ _ _) rfl ?_
  exact ⟨rfl, Y1.out, K1.out⟩
theorem cw0_any (h : CW w g x) (r b : Int) (hr : ¬ r = 2 ∧ ¬ r = 3 ∧ ¬ r = 4 ∧ ¬ r = 5 ∧ ¬ r = 6 ∧ ¬ r = 7) : Calls Tryd.prog 45 #[.pointer (some ⟨g, 0, none⟩), .int .i64 r, .int .u8 b] w (ChR (.tuple #[]) g x w) := by
  obtain ⟨r2, r3, r4, r5, r6, r7⟩ := hr
  have H := Lib.hid h
  have j2 : (r == 2) = false := by simpa using r2
  have j3 : (r == 3) = false := by simpa using r3
  have j4 : (r == 4) = false := by simpa using r4
  have j5 : (r == 5) = false := by simpa using r5
  have j6 : (r == 6) = false := by simpa using r6
  have j7 : (r == 7) = false := by simpa using r7
  clear h
  go_enter Tryd.func45, Tryd.ntmps45
  go_wp2
  first | go_end0 | refine bodyPost_ret (results_none rfl _ _ _) rfl ?_
  exact ⟨rfl, H.out, Kp.refl _ _⟩
theorem cw4_any (h : CW w g x) (b : Int) (b0 : 0 ≤ b) (b1 : b ≤ 255) : Calls Tryd.prog 45 #[.pointer (some ⟨g, 0, none⟩), .int .i64 4, .int .u8 b] w (ChR (.tuple #[]) g { x with ct := b, pl := if bitB b 6 && !bitB b 7 then 0 else x.pl } w) := by
  have c39 : w.cell? ⟨g, 39, none⟩ = some (.int .u8 x.ct) := h.cell 39 (by decide)
  have f39 := h.1.frozen 39
  obtain ⟨q1, q2⟩ := h.put (y := { x with ct := b }) 39 (.int .u8 b) (fun j hj => by
    by_cases e : j = 39
    · subst e; rfl
    · rw [if_neg e]; unfold chV; dsimp only; simp only [if_neg e]) ⟨h.2.1, h.2.2.1, h.2.2.2.1, h.2.2.2.2.1, h.2.2.2.2.2.1, ⟨b0, b1⟩, h.2.2.2.2.2.2.2⟩
  have Q1 := Lib.hid q1
  have Q2 := Lib.hid q2
  obtain ⟨y, hy⟩ : ∃ y : Cw, y = { x with ct := b } := ⟨_, rfl⟩
  obtain ⟨Y, hY⟩ : ∃ Y : Cw, Y = { x with ct := b, pl := if bitB b 6 && !bitB b 7 then 0 else x.pl } := ⟨_, rfl⟩
  rw [← hy] at Q1
  rw [← hY]
  have t1 : y.tell = bitB b 6 := by rw [hy]; rfl
  have t2 : y.on = bitB b 7 := by rw [hy]; rfl
  clear h q1 q2 
  cases h6 : bitB b 6 with
  | false =>
    have T1 := Lib.hid (t1.trans h6)
    have e : Y = y := by rw [hY, hy, h6]; rfl
    have E := Lib.hid e
    clear e t1 t2 hy hY h6
    go_enter Tryd.func45, Tryd.ntmps45
    go_wp2_with fail
    refine (ctell_v Q1.out T1.out).mono ?_
    rintro e w' ⟨rfl, rfl⟩
    go_wp2_with fail
    first | go_end0 | refine bodyPost_ret (results_none rfl _ _ _) rfl ?_
    exact ⟨rfl, by rw [E.out]; exact Q1.out, Q2.out⟩
  | true =>
    have T1 := Lib.hid (t1.trans h6)
    cases h7 : bitB b 7 with
    | true =>
      have T2 := Lib.hid (t2.trans h7)
      have e : Y = y := by rw [hY, hy, h6, h7]; rfl
      have E := Lib.hid e
      clear e t1 t2 hy hY h6 h7
      go_enter Tryd.func45, Tryd.ntmps45
      go_wp2_with fail
      refine (ctell_v Q1.out T1.out).mono ?_
      rintro e w' ⟨rfl, rfl⟩
      go_wp2_with fail
      refine (con_v Q1.out T2.out).mono ?_
      rintro e w' ⟨rfl, rfl⟩
      go_wp2_with fail
      first | go_end0 | refine bodyPost_ret (results_none rfl _ _ _) rfl ?_
      exact ⟨rfl, by rw [E.out]; exact Q1.out, Q2.out⟩
    | false =>
      have T2 := Lib.hid (t2.trans h7)
      have e : Y = { y with pl := 0 } := by rw [hY, hy, h6, h7]; rfl
      have E := Lib.hid e
      clear e t1 t2 hy hY h6 h7
      go_enter Tryd.func45, Tryd.ntmps45
      go_wp2_with fail
      refine (ctell_v Q1.out T1.out).mono ?_
      rintro e w' ⟨rfl, rfl⟩
      go_wp2_with fail
      have c35 : (w.setCell ⟨g, 39, none⟩ (.int .u8 b)).cell? ⟨g, 35, none⟩ = some (.int .i64 y.pl) := Q1.out.cell 35 (by decide)
      have f35 := Q1.out.1.frozen 35
      obtain ⟨z1, z2⟩ := Q1.out.put (y := { y with pl := 0 }) 35 (.int .i64 0) (fun j hj => by
        by_cases e : j = 35
        · subst e; rfl
        · rw [if_neg e]; unfold chV; dsimp only; simp only [if_neg e]) ⟨Q1.out.2.1, by dsimp only; decide, Q1.out.2.2.2⟩
      have Z1 := Lib.hid z1
      have Z2 := Lib.hid (Q2.out.trans z2 (by simp))
      clear z1 z2
      refine (con_v Q1.out T2.out).mono ?_
      rintro e w' ⟨rfl, rfl⟩
      go_wp2_with fail
      first | go_end0 | refine bodyPost_ret (results_none rfl _ _ _) rfl ?_
      exact ⟨rfl, by rw [E.out]; exact Z1.out, Z2.out⟩
theorem cwrite_any (h : CW w g x) (r b : Int) (b0 : 0 ≤ b) (b1 : b ≤ 255) : Calls Tryd.prog 45 #[.pointer (some ⟨g, 0, none⟩), .int .i64 r, .int .u8 b] w (ChR (.tuple #[]) g (x.wr r b) w) := by
  obtain ⟨B, rfl⟩ := Int.eq_ofNat_of_zero_le b0
  unfold Cw.wr
  split
  · rename_i e; subst e; exact cw2_any h B (by omega)
  split
  · rename_i e; subst e; rw [show ((B : Int) % 16).toNat = B % 16 by omega]; exact cw3_any h B (by omega)
  split
  · rename_i e; subst e; exact cw4_any h _ b0 b1
  split
  · rename_i e; subst e; exact cw5_any h _ b0 b1
  split
  · rename_i e; subst e; exact cw6_any h _ b0 b1
  split
  · rename_i e; subst e; exact cw7_any h _ b0 b1
  · exact cw0_any h r _ ⟨by assumption, by assumption, by assumption, by assumption, by assumption, by assumption⟩
end
end Go.Proofs.YtaamfcbpelbboaaDoor
namespace Go.Proofs.YtaamfcbpelbboaaDoor
open Go.RowKit
set_option linter.unusedVariables false
set_option linter.unusedSimpArgs false
set_option maxRecDepth 100000
theorem infoW : (Tryd.prog.info? 74).map (fun i => (i.zero, i.size)) = some (some (.agg (iArr .u8 32 fun _ => 0)), 32) := by kernel_rfl
theorem zeroW (w : World) : (zeroValue 74).run Tryd.prog w = .ok (.agg (iArr .u8 32 fun _ => 0)) w := (zero_of_info infoW).1 w
theorem sizeW : (Tryd.prog.info? 74).map (·.size) = some 32 := (zero_of_info infoW).2
def Cw.zero : Cw := ⟨⟨0, 0, 0⟩, fun _ => 0, 0, 0, 0, 0, 0, 0, 0, false⟩
theorem infoC : (Tryd.prog.info? 95).map (fun i => (i.zero, i.size)) = some (some (.agg (chC Cw.zero)), 43) := by kernel_rfl
theorem zeroC (w : World) : (zeroValue 95).run Tryd.prog w = .ok (.agg (chC Cw.zero)) w := (zero_of_info infoC).1 w
theorem sizeC : (Tryd.prog.info? 95).map (·.size) = some 43 := (zero_of_info infoC).2
theorem CW.range {w : World} {g : Nat} {x : Cw} (h : CW w g x) : w.rangeAt g 3 (intsOf .u8 x.wv 32) := fun j v hv => by
  have hj : j < 32 := by
    by_cases hj : j < 32
    · exact hj
    · rw [List.getElem?_eq_none (by rw [intsOf_len]; omega)] at hv; cases hv
  rw [intsOf_at .u8 x.wv 32 j hj] at hv
  cases hv
  exact h.wave j hj
section
variable {w : World} {g : Nat} {x : Cw}
def CNewR (x : Cw) (w : World) (e : Ending) (w' : World) : Prop := ∃ g, e = .returned (.pointer (some ⟨g, 0, none⟩)) ∧ w.heap.size ≤ g ∧ CW w' g x ∧ Below w.heap.size w w'
def newA : List (Nat × Value) := [(0, .agg #[.int .u32 1, .int .i64 1984, .int .u8 0]), (5, .int .i64 4096)]
theorem new_built : Tryd.prog.built 95 newA = some (chC Cw.new) := by kernel_rfl
set_option maxHeartbeats 2000000 in
theorem cnew_any (w : World) : Calls Tryd.prog 51 #[] w (CNewR Cw.new w) := by
  go_enter Tryd.func51, Tryd.ntmps51
  go_wp2_with fail
  refine (nnew_any 0 _ (by decide) (by decide)).mono ?_
  rintro e w1 ⟨rfl, h1, b1⟩
  obtain ⟨c0, c1, c2⟩ := h1.cells
  try dsimp only [Nz.new, Nat.zero_add] at c0 c1 c2
  rw [show perN 0 = 1984 from rfl] at c1
  have hl := b1.size
  have B1 := Lib.hid b1
  clear h1 b1
  go_wp2_with (refine wpList_build rfl 95 _ rfl newA (by rfl) (chC Cw.new) new_built ?_)
  go_ret
  exact ⟨w1.heap.size, rfl, hl, ⟨Blk.new w1 _ _, Cw.new_ok⟩, B1.out.alloc hl _⟩
theorem storeC (x : Cw) (W : World) : (storeCells ⟨W.heap.size, 0, none⟩ (chC x).toList).run Tryd.prog (W.alloc (.cells (chC Cw.zero) 95)) = .ok () (W.alloc (.cells (chC x) 95)) :=
  run_storeCells_new (P := Tryd.prog) W 95 (chC Cw.zero) (chC x) (by rw [chC_size]; exact sizeC) (by rw [chC_size, chC_size]) (by rw [Array.all_eq_true]; intro i hi; exact chC_one x _ (by simp))
end
section
variable (w : World)
theorem con_nil : Calls Tryd.prog 46 #[.pointer none] w fun e w' => e = .returned (.bool false) ∧ w = w' := by
  go_enter Tryd.func46, Tryd.ntmps46
  go_wp2
  go_ret
  exact ⟨rfl, rfl⟩
theorem clevel_nil : Calls Tryd.prog 57 #[.pointer none] w fun e w' => e = .returned (.int .u8 0) ∧ w = w' := by
  go_enter Tryd.func57, Tryd.ntmps57
  go_wp2_with (go_at_call 46; refine (con_nil _).mono ?_; rintro e w' ⟨rfl, rfl⟩)
  go_ret
  exact ⟨rfl, rfl⟩
theorem cvol_nil : Calls Tryd.prog 58 #[.pointer none] w fun e w' => e = .returned (.int .u8 0) ∧ w = w' := by
  go_enter Tryd.func58, Tryd.ntmps58
  go_wp2
  go_ret
  exact ⟨rfl, rfl⟩
theorem cbal_nil : Calls Tryd.prog 56 #[.pointer none] w fun e w' => e = .returned (.tuple #[.int .u8 0, .int .u8 0]) ∧ w = w' := by
  go_enter Tryd.func56, Tryd.ntmps56
  go_wp2
  go_ret2
  exact ⟨rfl, rfl⟩
theorem cwrite_nil (r b : Int) : Calls Tryd.prog 45 #[.pointer none, .int .i64 r, .int .u8 b] w fun e w' => e = .returned (.tuple #[]) ∧ w = w' := by
  go_enter Tryd.func45, Tryd.ntmps45
  go_wp2
  first | go_end0 | refine bodyPost_ret (results_none rfl _ _ _) rfl ?_
  exact ⟨rfl, rfl⟩
end
end Go.Proofs.YtaamfcbpelbboaaDoor
