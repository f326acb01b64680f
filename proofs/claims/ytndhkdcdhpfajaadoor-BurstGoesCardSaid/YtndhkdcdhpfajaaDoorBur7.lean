/-
  Blocks on their way: what must be whatever is asked.
-/
import Derived.Test.YtndhkdcdhpfajaaDoorBur6
namespace Go.Proofs.YtndhkdcdhpfajaaDoor
open Go.RowKit
set_option linter.unusedVariables false
set_option linter.unusedSimpArgs false
set_option maxRecDepth 100000
def lv0 : Bu := ⟨0, 5, 9, 2, 0, 0, 0⟩
def lv1 : Bu := ⟨0, 5, 9, 2, 0, 1, 0⟩
def lv2 : Bu := ⟨0, 5, 9, 2, 0, 2, 7⟩
theorem lv0_ok : lv0.ok := ⟨by decide, by decide, by decide, by decide, by decide, by decide, by decide, by decide, by decide, by decide, by decide⟩
theorem lv1_ok : lv1.ok := ⟨by decide, by decide, by decide, by decide, by decide, by decide, by decide, by decide, by decide, by decide, by decide⟩
theorem lv2_ok : lv2.ok := ⟨by decide, by decide, by decide, by decide, by decide, by decide, by decide, by decide, by decide, by decide, by decide⟩
theorem q31_new (w : World) : Calls Tryd.prog 6 #[.int .u8 0, .int .u16 5, .int .u16 9, .int .u16 2] w fun e w' => ∃ g, w.heap.size ≤ g ∧ e = .returned (.tuple #[.pointer (some ⟨g, 0, none⟩), .int .i64 0]) ∧ BuB w' g lv0 ∧ Below w.heap.size w w' := bnew_any 0 5 9 2 (by decide) (by decide) (by decide) (by decide) (by decide) (by decide) (by decide) w
theorem q31_no (w : World) : Calls Tryd.prog 6 #[.int .u8 9, .int .u16 0, .int .u16 0, .int .u16 0] w fun e w' => e = .returned (.tuple #[.pointer none, .int .i64 12]) ∧ Below w.heap.size w w' := bnew_no 9 0 0 0 (by decide) (by decide) (by decide) (by decide) (by decide) w
section
variable {w : World} {g : Nat}
theorem q31_next0 (h : BuB w g lv0) (t : BKd w) : Calls Tryd.prog 12 #[.pointer (some ⟨g, 0, none⟩)] w fun e w' => e = .returned (.tuple #[.int .u8 2, .int .u16 0]) ∧ Below w.heap.size w w' := bnext_any h lv0_ok t
theorem q31_next1 (h : BuB w g lv1) (t : BKd w) : Calls Tryd.prog 12 #[.pointer (some ⟨g, 0, none⟩)] w fun e w' => e = .returned (.tuple #[.int .u8 3, .int .u16 5]) ∧ Below w.heap.size w w' := bnext_any h lv1_ok t
theorem q31_step0 (h : BuB w g lv0) : Calls Tryd.prog 8 #[.pointer (some ⟨g, 0, none⟩), .int .u8 0] w fun e w' => e = .returned (.tuple #[]) ∧ BuB w' g lv1 ∧ Kp [g] w w' := bstep_any h lv0_ok 0
theorem q31_step1 (h : BuB w g lv1) : Calls Tryd.prog 8 #[.pointer (some ⟨g, 0, none⟩), .int .u8 7] w fun e w' => e = .returned (.tuple #[]) ∧ BuB w' g lv2 ∧ Kp [g] w w' := bstep_any h lv1_ok 7
theorem q31_data (h : BuB w g lv2) : Calls Tryd.prog 13 #[.pointer (some ⟨g, 0, none⟩)] w fun e w' => e = .returned (.int .u8 7) ∧ w = w' := bdata_any h
theorem q31_left (h : BuB w g lv2) : Calls Tryd.prog 17 #[.pointer (some ⟨g, 0, none⟩)] w fun e w' => e = .returned (.int .i64 2) ∧ Below w.heap.size w w' := bleft_any h lv2_ok 2 rfl
theorem q31_phase (h : BuB w g lv2) : Calls Tryd.prog 18 #[.pointer (some ⟨g, 0, none⟩)] w fun e w' => e = .returned (.int .i64 2) ∧ w = w' := bphase_any h
theorem q31_done (h : BuB w g lv2) : Calls Tryd.prog 11 #[.pointer (some ⟨g, 0, none⟩)] w fun e w' => e = .returned (.bool false) ∧ Below w.heap.size w w' := bdone_any h lv2_ok
theorem q31_cycles (w : World) : Calls Tryd.prog 15 #[.int .u16 0] w fun e w' => e = .returned (.int .i64 393216) ∧ w = w' := bcycles_any 0 (by decide) (by decide) w
end
set_option maxHeartbeats 8000000 in
theorem live31 {w : World} (hT : BKd w) : Calls Tryd.prog 5 #[] w fun e w' => e = .returned (.bool true) ∧ Below w.heap.size w w' := by
  have hG := hT.1
  have T0 := Lib.hid hT
  have HG := Lib.hid hG
  clear hT hG
  go_enter Tryd.func5, Tryd.ntmps5
  go_wp2_with fail
  refine (q31_new _).mono ?_
  rintro e w1 ⟨g, hg, rfl, hp, hb⟩
  have P1 := Lib.hid hp
  have B1 := Lib.hid hb
  have T1 := Lib.hid (T0.out.below hb)
  have GG := Lib.hid hg
  clear hp hb hg T0
  go_wp2_with fail
  refine (q31_next0 P1.out T1.out).mono ?_
  rintro e w2 ⟨rfl, hb⟩
  have P2 := Lib.hid (P1.out.keep hb)
  have T2 := Lib.hid (T1.out.below hb)
  have B2 := Lib.hid (B1.out.trans (hb.mono B1.out.size))
  clear hb P1 T1 B1
  go_wp2_with fail
  refine (q31_step0 P2.out).mono ?_
  rintro e w3 ⟨rfl, hp, hk⟩
  have P3 := Lib.hid hp
  have T3 := Lib.hid (T2.out.kp hk (by have := HG.out; have := GG.out; simp; omega))
  have B3 := Lib.hid (Kp.onto B2.out hk B2.out.size (by simpa using GG.out))
  clear hp hk P2 T2 B2
  go_wp2_with fail
  refine (q31_next1 P3.out T3.out).mono ?_
  rintro e w4 ⟨rfl, hb⟩
  have P4 := Lib.hid (P3.out.keep hb)
  have T4 := Lib.hid (T3.out.below hb)
  have B4 := Lib.hid (B3.out.trans (hb.mono B3.out.size))
  clear hb P3 T3 B3
  go_wp2_with fail
  refine (q31_step1 P4.out).mono ?_
  rintro e w5 ⟨rfl, hp, hk⟩
  have P5 := Lib.hid hp
  have T5 := Lib.hid (T4.out.kp hk (by have := HG.out; have := GG.out; simp; omega))
  have B5 := Lib.hid (Kp.onto B4.out hk B4.out.size (by simpa using GG.out))
  clear hp hk P4 T4 B4
  go_wp2_with fail
  refine (bstep_nil _ _).mono ?_
  rintro e w' ⟨rfl, rfl⟩
  go_wp2_with fail
  refine (bnext_nil _).mono ?_
  rintro e w' ⟨rfl, rfl⟩
  go_wp2_with fail
  refine (q31_no _).mono ?_
  rintro e w6 ⟨rfl, hb⟩
  have P6 := Lib.hid (P5.out.keep hb)
  have T6 := Lib.hid (T5.out.below hb)
  have B6 := Lib.hid (B5.out.trans (hb.mono B5.out.size))
  clear hb P5 T5 B5
  go_wp2_with fail
  refine (q31_data P6.out).mono ?_
  rintro e w' ⟨rfl, rfl⟩
  go_wp2_with fail
  refine (q31_left P6.out).mono ?_
  rintro e w7 ⟨rfl, hb⟩
  have P7 := Lib.hid (P6.out.keep hb)
  have T7 := Lib.hid (T6.out.below hb)
  have B7 := Lib.hid (B6.out.trans (hb.mono B6.out.size))
  clear hb P6 T6 B6
  go_wp2_with fail
  refine (q31_phase P7.out).mono ?_
  rintro e w' ⟨rfl, rfl⟩
  go_wp2_with fail
  refine (q31_done P7.out).mono ?_
  rintro e w8 ⟨rfl, hb⟩
  have P8 := Lib.hid (P7.out.keep hb)
  have T8 := Lib.hid (T7.out.below hb)
  have B8 := Lib.hid (B7.out.trans (hb.mono B7.out.size))
  clear hb P7 T7 B7
  go_wp2_with fail
  refine (bdone_nil _).mono ?_
  rintro e w' ⟨rfl, rfl⟩
  go_wp2_with fail
  refine (bclone_nil _).mono ?_
  rintro e w' ⟨rfl, rfl⟩
  go_wp2_with fail
  refine (bleft_nil _).mono ?_
  rintro e w' ⟨rfl, rfl⟩
  go_wp2_with fail
  refine (bphase_nil _).mono ?_
  rintro e w' ⟨rfl, rfl⟩
  go_wp2_with fail
  refine (bdata_nil _).mono ?_
  rintro e w' ⟨rfl, rfl⟩
  go_wp2_with fail
  refine (q31_cycles _).mono ?_
  rintro e w' ⟨rfl, rfl⟩
  go_wp2_with fail
  go_ret
  exact ⟨rfl, B8.out⟩
end Go.Proofs.YtndhkdcdhpfajaaDoor
