/-
  What cart's Program answers; it only makes memory.
-/
import Derived.Test.YtfhndajhlpakoaaCart9
namespace Go.Proofs.Ytfhndajhlpakoaa
open Go.RowKit
set_option linter.unusedVariables false
/-- The bytes of a program's image. -/
def progF (o n : Nat) (z gs : Nat → Int) (i : Nat) : Int := if 8182 ≤ i ∧ i < 8192 then wz gs (i - 8182) else if o ≤ i ∧ i < o + n then z (i - o) else 0
def ProgR (f : Nat → Int) (w : World) (e : Ending) (w' : World) : Prop :=
  Below w.heap.size w w' ∧ ∃ g C, e = .returned (.tuple #[.slice (some ⟨g, 0, none⟩) 8192 8192, .int .i64 0]) ∧ w.heap.size ≤ g ∧ Blk w' g 5 (List.toArray C) ∧ BArr C 8192 f
theorem progF_wf {w : World} {A : Option Addr} {o n : Nat} {z gs : Nat → Int} (R : IRow w .u8 A n z) (i : Nat) : (Lit.int .u8 (progF o n z gs i)).wf = true := by
  unfold progF
  split
  · exact wz_wf _ _
  · split
    · rename_i h
      obtain ⟨_, _, _, _, hw⟩ := R (i - o) (by omega)
      exact hw
    · rfl
def two (p q : Pc) (i : Nat) : Pc := if i = 0 then p else q
/-- Two pieces in a new block. -/
theorem pair_row {w : World} {b k : Nat} {A : Option Addr} {n c g cap : Nat} {z y : Nat → Int} (hP : Blk w b 25 #[.int .i64 (k : Int), .slice A n c, .int .i64 8182, .slice (some ⟨g, 0, none⟩) 10 cap])
    (R : IRow w .u8 A n z) (Q : IRow w .u8 (some ⟨g, 0, none⟩) 10 y) (hc : n ≤ c) (hcm : c ≤ maxLen) (q1 : 10 ≤ cap) (q2 : cap ≤ maxLen) (hk : k < 8192) :
    PRow w (some ⟨b, 0, none⟩) 2 (two ⟨k, A, n, c, z⟩ ⟨8182, some ⟨g, 0, none⟩, 10, cap, y⟩) := fun i hi => by
  have : i = 0 ∨ i = 1 := by omega
  rcases this with rfl | rfl
  · refine ⟨_, rfl, hP.lt, ?_, ?_, WalkArith.wf_i64 (n := (k : Int)) (by omega), hc, hcm, R⟩
    · rw [add_zero_block, hP.cell]; rfl
    · rw [add_zero_block, hP.cell]; rfl
  · refine ⟨_, rfl, hP.lt, ?_, ?_, WalkArith.wf_i64 (n := 8182) (by omega), q1, q2, Q⟩
    · rw [add_zero_block, hP.cell]; rfl
    · rw [add_zero_block, hP.cell]; rfl
theorem prog_laid (k n : Nat) (A : Option Addr) (c : Nat) (B : Option Addr) (cap : Nat) (z gs : Nat → Int) (i : Nat) (hi : i < 8192) : laid (two ⟨k, A, n, c, z⟩ ⟨8182, B, 10, cap, wz gs⟩) 2 i = progF k n z gs i := by
  have e : laid (two ⟨k, A, n, c, z⟩ ⟨8182, B, 10, cap, wz gs⟩) 2 i = if (8182 : Int) ≤ i ∧ (i : Int) < 8182 + ((10 : Nat) : Int) then wz gs ((i : Int) - 8182).toNat else if (k : Int) ≤ i ∧ (i : Int) < k + n then z ((i : Int) - k).toNat else 0 := rfl
  rw [e]
  clear e
  unfold progF
  by_cases c1 : 8182 ≤ i
  · rw [if_pos (show (8182 : Int) ≤ i ∧ (i : Int) < 8182 + ((10 : Nat) : Int) by omega), if_pos (show 8182 ≤ i ∧ i < 8192 by omega), show ((i : Int) - 8182).toNat = i - 8182 by omega]
  · rw [if_neg (show ¬ ((8182 : Int) ≤ i ∧ (i : Int) < 8182 + ((10 : Nat) : Int)) by omega), if_neg (show ¬ (8182 ≤ i ∧ i < 8192) by omega)]
    by_cases c2 : k ≤ i ∧ i < k + n
    · rw [if_pos (show (k : Int) ≤ i ∧ (i : Int) < k + n by omega), if_pos c2, show ((i : Int) - k).toNat = i - k by omega]
    · rw [if_neg (show ¬ ((k : Int) ≤ i ∧ (i : Int) < k + n) by omega), if_neg c2]
set_option maxHeartbeats 1000000 in
theorem program_long (o : Int) (A : Option Addr) (n c : Nat) (gs : Nat → Int) (w : World) (o0 : 0 ≤ o) (o1 : o ≤ 65535) (hn : n ≤ 140737488355328) (h : 8182 < o % 8192 + n) :
    Calls Try.prog 42 #[.int .u16 o, .slice A n c, .agg #[.int .u16 (gs 0), .int .u16 (gs 1), .int .u16 (gs 2), .int .u16 (gs 3), .int .u16 (gs 4)]] w fun e w' => e = .returned (.tuple #[.slice none 0 0, .int .i64 2]) ∧ Below w.heap.size w w' := by
  go_enter Try.func42, Try.ntmps42
  go_wp2_with fail
  go_ret2
  exact ⟨rfl, by go_grown⟩
set_option maxRecDepth 100000 in
set_option maxHeartbeats 2000000 in
theorem program_any {w : World} (o : Int) (k : Nat) (A : Option Addr) (n c : Nat) (z gs : Nat → Int) (hc : n ≤ c) (hcm : c ≤ maxLen) (R : IRow w .u8 A n z) (o0 : 0 ≤ o) (o1 : o ≤ 65535) (hk : o % 8192 = k) (h : k + n ≤ 8182) :
    Calls Try.prog 42 #[.int .u16 o, .slice A n c, .agg #[.int .u16 (gs 0), .int .u16 (gs 1), .int .u16 (gs 2), .int .u16 (gs 3), .int .u16 (gs 4)]] w (ProgR (progF k n z gs) w) := by
  have d1 : ¬ (8182 : Int) < (k : Int) + n := by omega
  have HC := Lib.hid hc
  have HCM := Lib.hid hcm
  clear hc hcm
  go_enter Try.func42, Try.ntmps42
  go_wp2_with fail
  have hB0 : Below w.heap.size w (w.alloc (.cells #[.int .u16 (gs 0), .int .u16 (gs 1), .int .u16 (gs 2), .int .u16 (gs 3), .int .u16 (gs 4)] 81)) := (Below.refl _ _).alloc (Nat.le_refl _) _
  generalize w.alloc (.cells #[.int .u16 (gs 0), .int .u16 (gs 1), .int .u16 (gs 2), .int .u16 (gs 3), .int .u16 (gs 4)] 81) = w1 at *
  refine (words_any gs _).mono ?_
  rintro e w2 ⟨⟨g, cap, rfl, q1, q2, RG⟩, hb⟩
  have hB2 := hB0.trans (hb.mono hB0.size)
  have R2 := R.keep hB2
  have hB3 := hB2.alloc hB2.size (.cells #[.int .i64 (k : Int), .slice A n c, .int .i64 8182, .slice (some ⟨g, 0, none⟩) 10 cap] 25)
  have hb3 : Below w2.heap.size w2 (w2.alloc (.cells #[.int .i64 (k : Int), .slice A n c, .int .i64 8182, .slice (some ⟨g, 0, none⟩) 10 cap] 25)) := (Below.refl _ _).alloc (Nat.le_refl _) _
  have hP := Blk.new w2 25 #[.int .i64 (k : Int), .slice A n c, .int .i64 8182, .slice (some ⟨g, 0, none⟩) 10 cap]
  have PR := pair_row hP (R2.keep hb3) (RG.keep hb3) HC.out HCM.out q1 q2 (by omega)
  have MK := @make_any 1 8192 (some ⟨w2.heap.size, 0, none⟩) 2 2 (two ⟨k, A, n, c, z⟩ ⟨8182, some ⟨g, 0, none⟩, 10, cap, wz gs⟩) _ rfl rfl (by unfold maxLen; omega) PR
  have HM := Lib.hid MK
  clear MK PR hP R2 RG hb hb3
  go_wp2_with fail
  refine HM.out.mono ?_
  clear HM
  rintro e w3 ⟨hb, ⟨j, hj, hbad, _, rfl⟩ | ⟨_, g2, C, rfl, hg, hG, hA⟩⟩
  · exfalso
    apply hbad
    have : j = 0 ∨ j = 1 := by omega
    rcases this with rfl | rfl
    · exact ⟨by show (0 : Int) ≤ k; omega, by show (n : Int) ≤ 8192 - k; omega⟩
    · exact ⟨by show (0 : Int) ≤ 8182; omega, by show ((10 : Nat) : Int) ≤ 8192 - 8182; omega⟩
  · have hB4 := hB3.trans (hb.mono hB3.size)
    have hG1 := hG.alloc (.cells #[.int .i64 0, .int .i64 0] 30)
    have hB5 := hB4.alloc hB4.size (.cells #[.int .i64 0, .int .i64 0] 30)
    have hA2 : BArr C 8192 (progF k n z gs) := hA.congr fun i hi => prog_laid k n A c (some ⟨g, 0, none⟩) cap z gs i hi
    have z1 : w.heap.size ≤ g2 := by have := hB3.size; omega
    clear hb
    go_wp2_with fail
    go_quiet (fail)
    go_wp2_with fail
    go_ret2
    exact ⟨below_drewN hB5 _, g2, C, rfl, z1, hG1.drewN _, hA2⟩
end Go.Proofs.Ytfhndajhlpakoaa
