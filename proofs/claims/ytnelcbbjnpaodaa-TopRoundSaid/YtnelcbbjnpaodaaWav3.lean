/-
  A channel of sound: Write, register by register.
-/
import Derived.Test.YtnelcbbjnpaodaaWav2
namespace Go.Proofs.Ytnelcbbjnpaodaa
open Go.RowKit
set_option linter.unusedVariables false
set_option linter.unusedSimpArgs false
set_option maxRecDepth 100000
section
variable {w : World} {g : Nat} {x : Cw}
theorem cw2_any (h : CW w g x) (b : Nat) (hb : b < 256) : Calls Try.prog 22 #[.pointer (some ⟨g, 0, none⟩), .int .i64 2, .int .u8 b] w (ChR (.tuple #[]) g { x with fq := x.fq / 256 * 256 + b } w) := by
  have c36 : w.cell? ⟨g, 36, none⟩ = some (.int .i64 x.fq) := h.cell 36 (by decide)
  have f36 := h.1.frozen 36
  have hf := h.2.2.2.1
  have e1 := fq_low x.fq b hf hb
  obtain ⟨q1, q2⟩ := h.put (y := { x with fq := x.fq / 256 * 256 + b }) 36 (.int .i64 ((x.fq / 256 * 256 + b : Nat) : Int)) (fun j hj => by
    by_cases e : j = 36
    · subst e; rfl
    · rw [if_neg e]; unfold chV; dsimp only; simp only [if_neg e]) ⟨h.2.1, h.2.2.1, by dsimp only; omega, h.2.2.2.2⟩
  generalize x.fq / 256 * 256 + b = F at *
  have Q1 := Lib.hid q1
  have Q2 := Lib.hid q2
  clear h q1 q2
  go_enter Try.func22, Try.ntmps22
  go_wp2
  first | go_end0 | refine bodyPost_ret (results_none rfl _ _ _) rfl ?_
  exact ⟨rfl, Q1.out, Q2.out⟩
theorem cw3_any (h : CW w g x) (b : Nat) (hb : b < 256) : Calls Try.prog 22 #[.pointer (some ⟨g, 0, none⟩), .int .i64 3, .int .u8 b] w (ChR (.tuple #[]) g { x with fq := b % 16 * 256 + x.fq % 256 } w) := by
  have c36 : w.cell? ⟨g, 36, none⟩ = some (.int .i64 x.fq) := h.cell 36 (by decide)
  have f36 := h.1.frozen 36
  have hf := h.2.2.2.1
  have e1 := fq_high x.fq (b % 16) hf (by omega)
  obtain ⟨q1, q2⟩ := h.put (y := { x with fq := b % 16 * 256 + x.fq % 256 }) 36 (.int .i64 ((b % 16 * 256 + x.fq % 256 : Nat) : Int)) (fun j hj => by
    by_cases e : j = 36
    · subst e; rfl
    · rw [if_neg e]; unfold chV; dsimp only; simp only [if_neg e]) ⟨h.2.1, h.2.2.1, by dsimp only; omega, h.2.2.2.2⟩
  generalize b % 16 * 256 + x.fq % 256 = F at *
  have e2 : ((b % 16 * 256 : Nat) : Int) = (b : Int) % 16 * 256 := by omega
  rw [e2] at e1
  clear e2
  have Q1 := Lib.hid q1
  have Q2 := Lib.hid q2
  clear h q1 q2
  go_enter Try.func22, Try.ntmps22
  go_wp2
  first | go_end0 | refine bodyPost_ret (results_none rfl _ _ _) rfl ?_
  exact ⟨rfl, Q1.out, Q2.out⟩
theorem cw5_any (h : CW w g x) (b : Int) (b0 : 0 ≤ b) (b1 : b ≤ 255) : Calls Try.prog 22 #[.pointer (some ⟨g, 0, none⟩), .int .i64 5, .int .u8 b] w (ChR (.tuple #[]) g { x with bl := b } w) := by
  have c40 : w.cell? ⟨g, 40, none⟩ = some (.int .u8 x.bl) := h.cell 40 (by decide)
  have f40 := h.1.frozen 40
  obtain ⟨q1, q2⟩ := h.put (y := { x with bl := b }) 40 (.int .u8 b) (fun j hj => by
    by_cases e : j = 40
    · subst e; rfl
    · rw [if_neg e]; unfold chV; dsimp only; simp only [if_neg e]) ⟨h.2.1, h.2.2.1, h.2.2.2.1, h.2.2.2.2.1, h.2.2.2.2.2.1, h.2.2.2.2.2.2.1, ⟨b0, b1⟩, h.2.2.2.2.2.2.2.2⟩
  have Q1 := Lib.hid q1
  have Q2 := Lib.hid q2
  clear h q1 q2
  go_enter Try.func22, Try.ntmps22
  go_wp2
  first | go_end0 | refine bodyPost_ret (results_none rfl _ _ _) rfl ?_
  exact ⟨rfl, Q1.out, Q2.out⟩
theorem cw6_any (h : CW w g x) (b : Int) (b0 : 0 ≤ b) (b1 : b ≤ 255) : Calls Try.prog 22 #[.pointer (some ⟨g, 0, none⟩), .int .i64 6, .int .u8 b] w (ChR (.tuple #[]) g (x.take (b % 32)) w) := by
  have H := Lib.hid h
  clear h
  go_enter Try.func22, Try.ntmps22
  go_wp2_with fail
  refine (ctake_any H.out (b % 32) (by omega) (by omega)).mono ?_
  rintro e w1 ⟨rfl, y1, k1⟩
  go_wp2_with fail
  first | go_end0 | refine bodyPost_ret (results_none rfl _ _ _) rfl ?_
  exact ⟨rfl, y1, k1⟩
theorem cw7_any (h : CW w g x) (b : Int) (b0 : 0 ≤ b) (b1 : b ≤ 255) : Calls Try.prog 22 #[.pointer (some ⟨g, 0, none⟩), .int .i64 7, .int .u8 b] w (ChR (.tuple #[]) g { x with nz := x.nz.set b, ns := bitB b 7 } w) := by
  have c42 : w.cell? ⟨g, 42, none⟩ = some (.bool x.ns) := h.cell 42 (by decide)
  have f42 := h.1.frozen 42
  obtain ⟨B, hB⟩ : ∃ B, bitB b 7 = B := ⟨_, rfl⟩
  obtain ⟨q1, q2⟩ := h.put (y := { x with ns := B }) 42 (.bool B) (fun j hj => by
    by_cases e : j = 42
    · subst e; rfl
    · rw [if_neg e]
      by_cases e2 : j < 35
      · unfold chV; dsimp only; simp only [if_pos e2]
      · have : j = 35 ∨ j = 36 ∨ j = 37 ∨ j = 38 ∨ j = 39 ∨ j = 40 ∨ j = 41 := by omega
        rcases this with rfl | rfl | rfl | rfl | rfl | rfl | rfl <;> rfl) h.2
  have Q1 := Lib.hid q1
  have Q2 := Lib.hid q2
  have HB := Lib.hid hB
  rw [hB]
  clear h q1 q2 hB
  go_enter Try.func22, Try.ntmps22
  go_wp2_with fail
  refine (bit_any _ _ _).mono ?_
  rw [HB.out]
  rintro e w' ⟨rfl, rfl⟩
  go_wp2_with fail
  obtain ⟨z1, z2⟩ := Q1.out.noise
  refine (nset_any z1 b b0 b1).mono ?_
  rintro e w1 ⟨rfl, y1, k1⟩
  have Y1 := Lib.hid (z2 _ _ y1 k1)
  have K1 := Lib.hid (Q2.out.trans k1 (by simp))
  clear z1 z2 y1 k1
  go_wp2_with fail
  first | go_end0 | refine bodyPost_ret (results_none rfl _ _ _) rfl ?_
  exact ⟨rfl, Y1.out, K1.out⟩
theorem cw0_any (h : CW w g x) (r b : Int) (hr : ¬ r = 2 ∧ ¬ r = 3 ∧ ¬ r = 4 ∧ ¬ r = 5 ∧ ¬ r = 6 ∧ ¬ r = 7) : Calls Try.prog 22 #[.pointer (some ⟨g, 0, none⟩), .int .i64 r, .int .u8 b] w (ChR (.tuple #[]) g x w) := by
  obtain ⟨r2, r3, r4, r5, r6, r7⟩ := hr
  have H := Lib.hid h
  have j2 : (r == 2) = false := by simpa using r2
  have j3 : (r == 3) = false := by simpa using r3
  have j4 : (r == 4) = false := by simpa using r4
  have j5 : (r == 5) = false := by simpa using r5
  have j6 : (r == 6) = false := by simpa using r6
  have j7 : (r == 7) = false := by simpa using r7
  clear h
  go_enter Try.func22, Try.ntmps22
  go_wp2
  first | go_end0 | refine bodyPost_ret (results_none rfl _ _ _) rfl ?_
  exact ⟨rfl, H.out, Kp.refl _ _⟩
theorem cw4_any (h : CW w g x) (b : Int) (b0 : 0 ≤ b) (b1 : b ≤ 255) : Calls Try.prog 22 #[.pointer (some ⟨g, 0, none⟩), .int .i64 4, .int .u8 b] w (ChR (.tuple #[]) g { x with ct := b, pl := if bitB b 6 && !bitB b 7 then 0 else x.pl } w) := by
  have c39 : w.cell? ⟨g, 39, none⟩ = some (.int .u8 x.ct) := h.cell 39 (by decide)
  have f39 := h.1.frozen 39
  obtain ⟨q1, q2⟩ := h.put (y := { x with ct := b }) 39 (.int .u8 b) (fun j hj => by
    by_cases e : j = 39
    · subst e; rfl
    · rw [if_neg e]; unfold chV; dsimp only; simp only [if_neg e]) ⟨h.2.1, h.2.2.1, h.2.2.2.1, h.2.2.2.2.1, h.2.2.2.2.2.1, ⟨b0, b1⟩, h.2.2.2.2.2.2.2⟩
  have Q1 := Lib.hid q1
  have Q2 := Lib.hid q2
  obtain ⟨y, hy⟩ : ∃ y : Cw, y = { x with ct := b } := ⟨_, rfl⟩
  obtain ⟨Y, hY⟩ : ∃ Y : Cw, Y = { x with ct := b, pl := if bitB b 6 && !bitB b 7 then 0 else x.pl } := ⟨_, rfl⟩
  rw [← hy] at Q1
  rw [← hY]
  have t1 : y.tell = bitB b 6 := by rw [hy]; rfl
  have t2 : y.on = bitB b 7 := by rw [hy]; rfl
  clear h q1 q2 
  cases h6 : bitB b 6 with
  | false =>
    have T1 := Lib.hid (t1.trans h6)
    have e : Y = y := by rw [hY, hy, h6]; rfl
    have E := Lib.hid e
    clear e t1 t2 hy hY h6
    go_enter Try.func22, Try.ntmps22
    go_wp2_with fail
    refine (ctell_v Q1.out T1.out).mono ?_
    rintro e w' ⟨rfl, rfl⟩
    go_wp2_with fail
    first | go_end0 | refine bodyPost_ret (results_none rfl _ _ _) rfl ?_
    exact ⟨rfl, by rw [E.out]; exact Q1.out, Q2.out⟩
  | true =>
    have T1 := Lib.hid (t1.trans h6)
    cases h7 : bitB b 7 with
    | true =>
      have T2 := Lib.hid (t2.trans h7)
      have e : Y = y := by rw [hY, hy, h6, h7]; rfl
      have E := Lib.hid e
      clear e t1 t2 hy hY h6 h7
      go_enter Try.func22, Try.ntmps22
      go_wp2_with fail
      refine (ctell_v Q1.out T1.out).mono ?_
      rintro e w' ⟨rfl, rfl⟩
      go_wp2_with fail
      refine (con_v Q1.out T2.out).mono ?_
      rintro e w' ⟨rfl, rfl⟩
      go_wp2_with fail
      first | go_end0 | refine bodyPost_ret (results_none rfl _ _ _) rfl ?_
      exact ⟨rfl, by rw [E.out]; exact Q1.out, Q2.out⟩
    | false =>
      have T2 := Lib.hid (t2.trans h7)
      have e : Y = { y with pl := 0 } := by rw [hY, hy, h6, h7]; rfl
      have E := Lib.hid e
      clear e t1 t2 hy hY h6 h7
      go_enter Try.func22, Try.ntmps22
      go_wp2_with fail
      refine (ctell_v Q1.out T1.out).mono ?_
      rintro e w' ⟨rfl, rfl⟩
      go_wp2_with fail
      have c35 : (w.setCell ⟨g, 39, none⟩ (.int .u8 b)).cell? ⟨g, 35, none⟩ = some (.int .i64 y.pl) := Q1.out.cell 35 (by decide)
      have f35 := Q1.out.1.frozen 35
      obtain ⟨z1, z2⟩ := Q1.out.put (y := { y with pl := 0 }) 35 (.int .i64 0) (fun j hj => by
        by_cases e : j = 35
        · subst e; rfl
        · rw [if_neg e]; unfold chV; dsimp only; simp only [if_neg e]) ⟨Q1.out.2.1, by dsimp only; decide, Q1.out.2.2.2⟩
      have Z1 := Lib.hid z1
      have Z2 := Lib.hid (Q2.out.trans z2 (by simp))
      clear z1 z2
      refine (con_v Q1.out T2.out).mono ?_
      rintro e w' ⟨rfl, rfl⟩
      go_wp2_with fail
      first | go_end0 | refine bodyPost_ret (results_none rfl _ _ _) rfl ?_
      exact ⟨rfl, by rw [E.out]; exact Z1.out, Z2.out⟩
theorem cwrite_any (h : CW w g x) (r b : Int) (b0 : 0 ≤ b) (b1 : b ≤ 255) : Calls Try.prog 22 #[.pointer (some ⟨g, 0, none⟩), .int .i64 r, .int .u8 b] w (ChR (.tuple #[]) g (x.wr r b) w) := by
  obtain ⟨B, rfl⟩ := Int.eq_ofNat_of_zero_le b0
  unfold Cw.wr
  split
  · rename_i e; subst e; exact cw2_any h B (by omega)
  split
  · rename_i e; subst e; rw [show ((B : Int) % 16).toNat = B % 16 by omega]; exact cw3_any h B (by omega)
  split
  · rename_i e; subst e; exact cw4_any h _ b0 b1
  split
  · rename_i e; subst e; exact cw5_any h _ b0 b1
  split
  · rename_i e; subst e; exact cw6_any h _ b0 b1
  split
  · rename_i e; subst e; exact cw7_any h _ b0 b1
  · exact cw0_any h r _ ⟨by assumption, by assumption, by assumption, by assumption, by assumption, by assumption⟩
end
end Go.Proofs.Ytnelcbbjnpaodaa
