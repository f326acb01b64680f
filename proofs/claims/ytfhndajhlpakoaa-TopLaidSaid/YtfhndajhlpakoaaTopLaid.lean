/-
  For every input TopLaid returns true, and each argument reads behind the call as it read before. No conditions.
-/
import Derived.Test.YtfhndajhlpakoaaRows
import Derived.Test.YtfhndajhlpakoaaG3
import Derived.Test.YtfhndajhlpakoaaRam8
import Derived.Test.YtfhndajhlpakoaaCart4
import Derived.Test.YtfhndajhlpakoaaCart15
import Derived.Test.YtfhndajhlpakoaaCart16
import Derived.Test.YtfhndajhlpakoaaA1
import Derived.Test.YtfhndajhlpakoaaG14
namespace Go.Proofs.Ytfhndajhlpakoaa.topLaid
open Go.ChangeShapes Go.WideShapes Go.ChangeAt Go.RowKit
open Go.ChangeMaps (open_string)

set_option linter.unusedVariables false
set_option linter.unusedSimpArgs false
theorem readI_in (z : Nat → Int) (j : Nat) (h : j < 8192) : readI 8192 z (j : Int) = z j := by
  unfold readI
  have e : (j : Int) % 2097152 = j := by omega
  rw [e]
  have h0 : whereI (j : Int) = 0 := by
    unfold whereI
    rw [e]
    have h1 : partAt (j : Int) = 0 := by unfold partAt; (repeat' split) <;> omega
    rw [h1]; rfl
  rw [if_pos ⟨h0, by omega⟩]
  rfl
set_option maxRecDepth 100000 in
set_option maxHeartbeats 4000000 in
theorem walk {W : World} (A : Option Addr) (m c : Nat) (ps : Nat → Pc) (hmc : m ≤ c) (hc : c ≤ maxLen) (R : PRow W A m ps) (a : Int) (wa : (Lit.int .u16 a).wf = true) :
    Calls Try.prog 10 #[.slice A m c, .int .u16 a] W fun e w' => e = .returned (.bool true) ∧ Below W.heap.size W w' := by
  obtain ⟨a0, a1⟩ := bounds_u16 wa
  clear wa
  have hB1 : bitB 1 0 = true := by kernel_rfl
  have HB1 := Lib.hid hB1
  have hm : m ≤ maxLen := by omega
  have HM := Lib.hid hm
  unfold maxLen at hc hm
  clear hB1
  by_cases h20 : 20 < m
  · have d2 : (20 : Int) < m := by omega
    clear R
    go_enter Try.func10, Try.ntmps10
    go_wp2_with fail
    refine (asV (bit_any 1 0 _) (by rw [HB1.out])).mono ?_; rintro e w' ⟨rfl, rfl⟩
    go_wp2_with fail
    refine (rnew_any _).mono ?_
    rintro e w1 ⟨rfl, _, k1⟩
    go_wp2_with fail
    refine (rnew_any _).mono ?_
    rintro e w2 ⟨rfl, _, k2⟩
    go_wp2_with fail
    go_ret
    exact ⟨by simp, k1.trans (k2.mono k1.size)⟩
  have d2 : ¬ (20 : Int) < m := by omega
  have RH := Lib.hid R
  clear R
  go_enter Try.func10, Try.ntmps10
  go_wp2_with fail
  refine (asV (bit_any 1 0 _) (by rw [HB1.out])).mono ?_; rintro e w' ⟨rfl, rfl⟩
  go_wp2_with fail
  refine (rnew_any _).mono ?_
  rintro e w1 ⟨rfl, _, k1⟩
  go_wp2_with fail
  have R1 := RH.out.keep k1
  refine (make_any 1 8192 A m c ps _ (by kernel_rfl) (by omega) HM.out R1).mono ?_
  rintro e w2 ⟨k2, hres⟩
  have hB2 := k1.trans (k2.mono k1.size)
  rcases hres with ⟨j, hj, hbad, hgd, rfl⟩ | ⟨hall, gp, C, rfl, hgp, hC, hBA⟩
  · have kA : Below w2.heap.size w2 (w2.alloc (.cells #[.int .i64 1, .int .i64 j] 30)) := (Below.refl _ _).alloc (Nat.le_refl _) _
    have hF : Blk (w2.alloc (.cells #[.int .i64 1, .int .i64 j] 30)) w2.heap.size 30 #[.int .i64 1, .int .i64 j] := Blk.new _ _ _
    have hBA := hB2.trans (kA.mono hB2.size)
    have HRA := Lib.hid (RH.out.keep hBA)
    have HFA := Lib.hid hF
    have HJ := Lib.hid hj
    have HG := Lib.hid (And.intro hbad hgd)
    clear hF kA R1 k1 k2 hj hbad hgd
    go_wp2_with fail
    refine (of_any A m c ps _ HM.out HRA.out).mono ?_
    rintro e w3 ⟨k3, hres⟩
    have hB3 := hBA.trans (k3.mono hBA.size)
    have hF3 := HFA.out.below k3 HFA.out.lt
    rcases hres with ⟨j2, hj2, hbad2, hgd2, rfl⟩ | ⟨hall2, _⟩
    · obtain rfl : j2 = j := by
        rcases Nat.lt_trichotomy j2 j with h | h | h
        · exact absurd (HG.out.2 j2 h) hbad2
        · exact h
        · exact absurd (hgd2 j h) HG.out.1
      have c0 : w3.cell? ⟨w2.heap.size, 0, none⟩ = some (.int .i64 1) := hF3.cell 0
      have c1 : w3.cell? ⟨w2.heap.size, 1, none⟩ = some (.int .i64 j2) := hF3.cell 1
      have hl := hF3.lt
      clear hF3 k3 hbad2 hgd2 HG HFA
      go_wp2_with fail
      go_ret
      exact ⟨by simp, hB3.alloc hB3.size _⟩
    · exact absurd (hall2 j HJ.out) HG.out.1
  · obtain ⟨z, hz⟩ : ∃ z, laid ps m = z := ⟨_, rfl⟩
    have hwf : ∀ i, (Lit.int .u8 (z i)).wf = true := fun i => by rw [← hz]; exact laid_wf (fun i hi => R1.ok i hi) m (Nat.le_refl _) i
    rw [hz] at hBA
    clear hz
    have kA : Below w2.heap.size w2 (w2.alloc (.cells #[.int .i64 0, .int .i64 0] 30)) := (Below.refl _ _).alloc (Nat.le_refl _) _
    have hB3 := hB2.trans (kA.mono hB2.size)
    have hC3 := hC.below kA hC.lt
    have hI3 := IRow.of_blk hC3 hBA hwf
    have HC := Lib.hid hC3
    have HBA := Lib.hid hBA
    have HWF := Lib.hid hwf
    have hpa := pieces_any (some ⟨gp, 0, none⟩) 8192 8192 z (Nat.le_refl _) (by omega) (by kernel_rfl) hI3
    have HPA := Lib.hid hpa
    clear hpa hI3 hC3 hBA hwf hC kA R1 hB2 k1 k2
    go_wp2_with fail
    refine HPA.out.mono ?_
    rintro e w4 ⟨⟨v, qs, rfl, q1, q2⟩, k4⟩
    obtain ⟨Aq, cq, rfl, Rq⟩ := prow_any q1 q2
    have hB4 := hB3.trans (k4.mono hB3.size)
    have HC4 := Lib.hid (HC.out.below k4 HC.out.lt)
    have HRq := Lib.hid Rq
    have HQ2 := Lib.hid q2
    have hlen : (runs z 8192).length ≤ 8192 := runs_len z 8192
    clear q1 q2 Rq k4 HPA HC hB3
    obtain ⟨L, hL⟩ : ∃ L, (runs z 8192).length = L := ⟨_, rfl⟩
    rw [hL] at hlen ⊢
    have HL := Lib.hid hL
    have HRq2 : Hid (PRow w4 Aq L qs) := Lib.hid (by rw [← HL.out]; exact HRq.out)
    clear hL HRq
    go_wp2_with fail
    refine (of_any Aq L cq qs _ (by unfold maxLen; omega) HRq2.out).mono ?_
    rintro e w5 ⟨k5, hres⟩
    have hB5 := hB4.trans (k5.mono hB4.size)
    have HC5 := Lib.hid (HC4.out.below k5 HC4.out.lt)
    have HRq5 := Lib.hid (HRq2.out.keep k5)
    rcases hres with ⟨j2, hj2, hbad2, hgd2, rfl⟩ | ⟨_, g, mb, rfl, hg1, hmb, hRD⟩
    · exact absurd (runs_good HQ2.out j2 (by rw [HL.out]; exact hj2)) hbad2
    · have hRZ : RD w5 g mb z := ⟨hRD.1, hRD.2.congr fun i hi => by rw [← HL.out]; exact (laid_runs HQ2.out i hi).symm⟩
      have kB : Below w5.heap.size w5 (w5.alloc (.cells #[.int .i64 0, .int .i64 0] 30)) := (Below.refl _ _).alloc (Nat.le_refl _) _
      have hB6 := hB5.trans (kB.mono hB5.size)
      have HR6 := Lib.hid (hRZ.keep kB)
      have HC6 := Lib.hid (HC5.out.below kB HC5.out.lt)
      have HRq6 := Lib.hid (HRq5.out.keep kB)
      obtain ⟨j, hj⟩ := Int.eq_ofNat_of_zero_le (show 0 ≤ a % 8192 by omega)
      have hj8 : j < 8192 := by omega
      have hcj : (w5.alloc (.cells #[.int .i64 0, .int .i64 0] 30)).cell? ⟨gp, j, none⟩ = some (.int .u8 (z j)) := by
        rw [HC6.out.cell]; simpa using HBA.out.2 j hj8
      have HCJ := Lib.hid hcj
      have tm : a.tmod 8192 = j := by rw [Int.tmod_eq_emod_of_nonneg a0]; exact hj
      have tw : IntKind.i64.wrap (j : Int) = j := IntWalk.i64_in _ (by omega)
      have tu : IntKind.u32.wrap (j : Int) = j := IntWalk.u32_in _ (by omega)
      have ta : IntKind.i64.wrap a = a := IntWalk.i64_in _ (by omega)
      have tb : IntKind.u32.wrap a = a := IntWalk.u32_in _ (by omega)
      have i0 : (0 : Int) ≤ (j : Int) := by omega
      have i1 : (j : Int) < 8192 := by omega
      have hne := beq_self_eq_true (z j)
      have FZ := Lib.hid (show z (a % 8192).toNat = z j by rw [hj]; rfl)
      have HI := Lib.hid (readI_in z j hj8)
      clear hRD hRZ kB k5 HC5 HRq5 HRq2 HC4 hmb hB5 hB4 hcj
      go_wp2_with fail
      refine rg_begin (S := fun w' => w'.cell? ⟨gp, j, none⟩ = some (.int .u8 (z j))) 28 #[false, false, false, false, false, false, false, false, false, false, false, false, false, false, false, false, false, false, false, false, false, false, false, false, false, false, false, false] (by kernel_rfl) (by kernel_rfl) (by kernel_rfl) ?_ (fun hHeld => ?_)
      · exact HCJ.out
      refine rg_take (i := 0) (d := some 70) (l := #[true, false, false, false, false, false, false, false, false, false, false, false, false, false, false, false, false, false, false, false, false, false, false, false, false, false, false, false]) (fuel := 27) (v := ?_) rfl (by kernel_rfl) (by kernel_rfl) (by kernel_rfl) (by kernel_rfl) (by kernel_rfl) (fun _ _ _ h => h) (by kernel_rfl) ?_ (by assumption) ?_
      rotate_left 1
      · (intro wS hSw; (try dsimp only at hSw); go_simp; try with_reducible rfl)
      try simp only [Act.put, List.setIfInBounds_toArray, List.set_cons_zero, List.set_cons_succ]
      refine rg_take (i := 1) (d := some 71) (l := #[true, true, false, false, false, false, false, false, false, false, false, false, false, false, false, false, false, false, false, false, false, false, false, false, false, false, false, false]) (fuel := 26) (v := ?_) rfl (by kernel_rfl) (by kernel_rfl) (by kernel_rfl) (by kernel_rfl) (by kernel_rfl) (fun _ _ _ h => h) (by kernel_rfl) ?_ (by assumption) ?_
      rotate_left 1
      · (intro wS hSw; (try dsimp only at hSw); go_simp; try with_reducible rfl)
      try simp only [Act.put, List.setIfInBounds_toArray, List.set_cons_zero, List.set_cons_succ]
      refine rg_take (i := 3) (d := some 73) (l := #[true, true, false, true, false, false, false, false, false, false, false, false, false, false, false, false, false, false, false, false, false, false, false, false, false, false, false, false]) (fuel := 25) (v := ?_) rfl (by kernel_rfl) (by kernel_rfl) (by kernel_rfl) (by kernel_rfl) (by kernel_rfl) (fun _ _ _ h => h) (by kernel_rfl) ?_ (by assumption) ?_
      rotate_left 1
      · (intro wS hSw; (try dsimp only at hSw); go_simp; try with_reducible rfl)
      try simp only [Act.put, List.setIfInBounds_toArray, List.set_cons_zero, List.set_cons_succ]
      refine rg_take (i := 4) (d := some 74) (l := #[true, true, false, true, true, false, false, false, false, false, false, false, false, false, false, false, false, false, false, false, false, false, false, false, false, false, false, false]) (fuel := 24) (v := ?_) rfl (by kernel_rfl) (by kernel_rfl) (by kernel_rfl) (by kernel_rfl) (by kernel_rfl) (fun _ _ _ h => h) (by kernel_rfl) ?_ (by assumption) ?_
      rotate_left 1
      · (intro wS hSw; (try dsimp only at hSw); go_simp; try with_reducible rfl)
      try simp only [Act.put, List.setIfInBounds_toArray, List.set_cons_zero, List.set_cons_succ]
      refine rg_take (i := 5) (d := some 75) (l := #[true, true, false, true, true, true, false, false, false, false, false, false, false, false, false, false, false, false, false, false, false, false, false, false, false, false, false, false]) (fuel := 23) (v := ?_) rfl (by kernel_rfl) (by kernel_rfl) (by kernel_rfl) (by kernel_rfl) (by kernel_rfl) (fun _ _ _ h => h) (by kernel_rfl) ?_ (by assumption) ?_
      rotate_left 1
      · (intro wS hSw; (try dsimp only at hSw); go_simp; try with_reducible rfl)
      try simp only [Act.put, List.setIfInBounds_toArray, List.set_cons_zero, List.set_cons_succ]
      refine rg_take (i := 6) (d := some 76) (l := #[true, true, false, true, true, true, true, false, false, false, false, false, false, false, false, false, false, false, false, false, false, false, false, false, false, false, false, false]) (fuel := 22) (v := ?_) rfl (by kernel_rfl) (by kernel_rfl) (by kernel_rfl) (by kernel_rfl) (by kernel_rfl) (fun _ _ _ h => h) (by kernel_rfl) ?_ (by assumption) ?_
      rotate_left 1
      · (intro wS hSw; (try dsimp only at hSw); go_simp; try with_reducible rfl)
      try simp only [Act.put, List.setIfInBounds_toArray, List.set_cons_zero, List.set_cons_succ]
      refine rg_take (i := 7) (d := some 77) (l := #[true, true, false, true, true, true, true, true, false, false, false, false, false, false, false, false, false, false, false, false, false, false, false, false, false, false, false, false]) (fuel := 21) (v := ?_) rfl (by kernel_rfl) (by kernel_rfl) (by kernel_rfl) (by kernel_rfl) (by kernel_rfl) (fun _ _ _ h => h) (by kernel_rfl) ?_ (by assumption) ?_
      rotate_left 1
      · (intro wS hSw; (try dsimp only at hSw); go_simp; try with_reducible rfl)
      try simp only [Act.put, List.setIfInBounds_toArray, List.set_cons_zero, List.set_cons_succ]
      refine rg_take (i := 8) (d := some 78) (l := #[true, true, false, true, true, true, true, true, true, false, false, false, false, false, false, false, false, false, false, false, false, false, false, false, false, false, false, false]) (fuel := 20) (v := ?_) rfl (by kernel_rfl) (by kernel_rfl) (by kernel_rfl) (by kernel_rfl) (by kernel_rfl) (fun _ _ _ h => h) (by kernel_rfl) ?_ (by assumption) ?_
      rotate_left 1
      · (intro wS hSw; (try dsimp only at hSw); go_simp; try with_reducible rfl)
      try simp only [Act.put, List.setIfInBounds_toArray, List.set_cons_zero, List.set_cons_succ]
      refine rg_next (i := 2) (l := #[true, true, true, true, true, true, true, true, true, false, false, false, false, false, false, false, false, false, false, false, false, false, false, false, false, false, false, false]) (fuel := 19) (by kernel_rfl) rfl (by kernel_rfl) (by kernel_rfl) (fun K hK => ?_)
      go_simp
      (go_at_call 26)
      refine (rread_any (w := (w5.alloc (.cells #[.int .i64 0, .int .i64 0] 30)).drew) (by exact HR6.out) a a0 a1).mono ?_
      rw [FZ.out]
      rintro e x1 ⟨rfl, b1⟩
      have B1 := Lib.hid b1
      clear b1
      have C1 := Lib.hid (HC6.out.later B1.out rfl)
      have Q1 := Lib.hid (RD.keep (w := (w5.alloc (.cells #[.int .i64 0, .int .i64 0] 30)).drew) (by exact HR6.out) B1.out)
      have P1 := Lib.hid (PRow.keep (w := (w5.alloc (.cells #[.int .i64 0, .int .i64 0] 30)).drew) (by exact HRq6.out) B1.out)
      have D1 := Lib.hid ((hB6.drew).trans (B1.out.mono hB6.size))
      have cx : x1.cell? ⟨gp, j, none⟩ = some (.int .u8 (z j)) := by (rw [C1.out.cell]; simpa using HBA.out.2 j hj8)
      first | (refine hK.out _ _ ?_ (fun hHeld => ?_)) | (go_wp2_with fail; refine hK.out _ _ ?_ (fun hHeld => ?_))
      · (try dsimp only); exact cx
      clear hK K
      try simp only [Act.put, List.setIfInBounds_toArray, List.set_cons_zero, List.set_cons_succ]
      refine rg_take (i := 9) (d := some 79) (l := #[true, true, true, true, true, true, true, true, true, true, false, false, false, false, false, false, false, false, false, false, false, false, false, false, false, false, false, false]) (fuel := 18) (v := ?_) rfl (by kernel_rfl) (by kernel_rfl) (by kernel_rfl) (by kernel_rfl) (by kernel_rfl) (fun _ _ _ h => h) (by kernel_rfl) ?_ (by assumption) ?_
      rotate_left 1
      · (intro wS hSw; (try dsimp only at hSw); go_simp; try with_reducible rfl)
      try simp only [Act.put, List.setIfInBounds_toArray, List.set_cons_zero, List.set_cons_succ]
      refine rg_take (i := 10) (d := some 80) (l := #[true, true, true, true, true, true, true, true, true, true, true, false, false, false, false, false, false, false, false, false, false, false, false, false, false, false, false, false]) (fuel := 17) (v := ?_) rfl (by kernel_rfl) (by kernel_rfl) (by kernel_rfl) (by kernel_rfl) (by kernel_rfl) (fun _ _ _ h => h) (by kernel_rfl) ?_ (by assumption) ?_
      rotate_left 1
      · (intro wS hSw; (try dsimp only at hSw); go_simp; try with_reducible rfl)
      try simp only [Act.put, List.setIfInBounds_toArray, List.set_cons_zero, List.set_cons_succ]
      refine rg_take (i := 11) (d := some 81) (l := #[true, true, true, true, true, true, true, true, true, true, true, true, false, false, false, false, false, false, false, false, false, false, false, false, false, false, false, false]) (fuel := 16) (v := ?_) rfl (by kernel_rfl) (by kernel_rfl) (by kernel_rfl) (by kernel_rfl) (by kernel_rfl) (fun _ _ _ h => h) (by kernel_rfl) ?_ (by assumption) ?_
      rotate_left 1
      · (intro wS hSw; (try dsimp only at hSw); go_simp; try with_reducible rfl)
      try simp only [Act.put, List.setIfInBounds_toArray, List.set_cons_zero, List.set_cons_succ]
      refine rg_take (i := 12) (d := some 82) (l := #[true, true, true, true, true, true, true, true, true, true, true, true, true, false, false, false, false, false, false, false, false, false, false, false, false, false, false, false]) (fuel := 15) (v := ?_) rfl (by kernel_rfl) (by kernel_rfl) (by kernel_rfl) (by kernel_rfl) (by kernel_rfl) (fun _ _ _ h => h) (by kernel_rfl) ?_ (by assumption) ?_
      rotate_left 1
      · (intro wS hSw; (try dsimp only at hSw); go_simp; try with_reducible rfl)
      try simp only [Act.put, List.setIfInBounds_toArray, List.set_cons_zero, List.set_cons_succ]
      refine rg_take (i := 14) (d := some 84) (l := #[true, true, true, true, true, true, true, true, true, true, true, true, true, false, true, false, false, false, false, false, false, false, false, false, false, false, false, false]) (fuel := 14) (v := ?_) rfl (by kernel_rfl) (by kernel_rfl) (by kernel_rfl) (by kernel_rfl) (by kernel_rfl) (fun _ _ _ h => h) (by kernel_rfl) ?_ (by assumption) ?_
      rotate_left 1
      · (intro wS hSw; (try dsimp only at hSw); go_simp; try with_reducible rfl)
      try simp only [Act.put, List.setIfInBounds_toArray, List.set_cons_zero, List.set_cons_succ]
      refine rg_take (i := 15) (d := some 85) (l := #[true, true, true, true, true, true, true, true, true, true, true, true, true, false, true, true, false, false, false, false, false, false, false, false, false, false, false, false]) (fuel := 13) (v := ?_) rfl (by kernel_rfl) (by kernel_rfl) (by kernel_rfl) (by kernel_rfl) (by kernel_rfl) (fun _ _ _ h => h) (by kernel_rfl) ?_ (by assumption) ?_
      rotate_left 1
      · (intro wS hSw; (try dsimp only at hSw); go_simp; try with_reducible rfl)
      try simp only [Act.put, List.setIfInBounds_toArray, List.set_cons_zero, List.set_cons_succ]
      refine rg_take (i := 16) (d := some 86) (l := #[true, true, true, true, true, true, true, true, true, true, true, true, true, false, true, true, true, false, false, false, false, false, false, false, false, false, false, false]) (fuel := 12) (v := ?_) rfl (by kernel_rfl) (by kernel_rfl) (by kernel_rfl) (by kernel_rfl) (by kernel_rfl) (fun _ _ _ h => h) (by kernel_rfl) ?_ (by assumption) ?_
      rotate_left 1
      · (intro wS hSw; (try dsimp only at hSw); go_simp; try with_reducible rfl)
      try simp only [Act.put, List.setIfInBounds_toArray, List.set_cons_zero, List.set_cons_succ]
      refine rg_take (i := 17) (d := some 87) (l := #[true, true, true, true, true, true, true, true, true, true, true, true, true, false, true, true, true, true, false, false, false, false, false, false, false, false, false, false]) (fuel := 11) (v := ?_) rfl (by kernel_rfl) (by kernel_rfl) (by kernel_rfl) (by kernel_rfl) (by kernel_rfl) (fun _ _ _ h => h) (by kernel_rfl) ?_ (by assumption) ?_
      rotate_left 1
      · (intro wS hSw; (try dsimp only at hSw); go_simp; try with_reducible rfl)
      try simp only [Act.put, List.setIfInBounds_toArray, List.set_cons_zero, List.set_cons_succ]
      refine rg_next (i := 13) (l := #[true, true, true, true, true, true, true, true, true, true, true, true, true, true, true, true, true, true, false, false, false, false, false, false, false, false, false, false]) (fuel := 10) (by kernel_rfl) rfl (by kernel_rfl) (by kernel_rfl) (fun K hK => ?_)
      go_simp
      (go_at_call 26)
      refine (rread_any Q1.out a a0 a1).mono ?_
      rw [FZ.out]
      rintro e x2 ⟨rfl, b2⟩
      have B2 := Lib.hid b2
      clear b2
      have C2 := Lib.hid (C1.out.below B2.out C1.out.lt)
      have Q2 := Lib.hid (Q1.out.keep B2.out)
      have P2 := Lib.hid (P1.out.keep B2.out)
      have D2 := Lib.hid (D1.out.trans (B2.out.mono D1.out.size))
      have cy : x2.cell? ⟨gp, j, none⟩ = some (.int .u8 (z j)) := by (rw [C2.out.cell]; simpa using HBA.out.2 j hj8)
      first | (refine hK.out _ _ ?_ (fun hHeld => ?_)) | (go_wp2_with fail; refine hK.out _ _ ?_ (fun hHeld => ?_))
      · (try dsimp only); exact cy
      clear hK K
      try simp only [Act.put, List.setIfInBounds_toArray, List.set_cons_zero, List.set_cons_succ]
      refine rg_next (i := 18) (l := #[true, true, true, true, true, true, true, true, true, true, true, true, true, true, true, true, true, true, true, false, false, false, false, false, false, false, false, false]) (fuel := 9) (by kernel_rfl) rfl (by kernel_rfl) (by kernel_rfl) (fun K hK => ?_)
      go_simp
      (go_at_call 40)
      refine (read_any (some ⟨gp, 0, none⟩) 8192 8192 z (j : Int) (by unfold maxLen; omega) (IRow.of_blk C2.out HBA.out HWF.out) i0 (by omega)).mono ?_
      rw [HI.out]
      rintro e x3 ⟨rfl, b3⟩
      have B3 := Lib.hid b3
      clear b3
      have C3 := Lib.hid (C2.out.below B3.out C2.out.lt)
      have Q3 := Lib.hid (Q2.out.keep B3.out)
      have P3 := Lib.hid (P2.out.keep B3.out)
      have D3 := Lib.hid (D2.out.trans (B3.out.mono D2.out.size))
      have cz : x3.cell? ⟨gp, j, none⟩ = some (.int .u8 (z j)) := by (rw [C3.out.cell]; simpa using HBA.out.2 j hj8)
      first | (refine hK.out _ _ ?_ (fun hHeld => ?_)) | (go_wp2_with fail; refine hK.out _ _ ?_ (fun hHeld => ?_))
      · (try dsimp only); exact cz
      clear hK K
      try simp only [Act.put, List.setIfInBounds_toArray, List.set_cons_zero, List.set_cons_succ]
      refine rg_take (i := 19) (d := some 89) (l := #[true, true, true, true, true, true, true, true, true, true, true, true, true, true, true, true, true, true, true, true, false, false, false, false, false, false, false, false]) (fuel := 8) (v := ?_) rfl (by kernel_rfl) (by kernel_rfl) (by kernel_rfl) (by kernel_rfl) (by kernel_rfl) (fun _ _ _ h => h) (by kernel_rfl) ?_ (by assumption) ?_
      rotate_left 1
      · (intro wS hSw; (try dsimp only at hSw); go_simp; try with_reducible rfl)
      try simp only [Act.put, List.setIfInBounds_toArray, List.set_cons_zero, List.set_cons_succ]
      refine rg_take (i := 20) (d := some 90) (l := #[true, true, true, true, true, true, true, true, true, true, true, true, true, true, true, true, true, true, true, true, true, false, false, false, false, false, false, false]) (fuel := 7) (v := ?_) rfl (by kernel_rfl) (by kernel_rfl) (by kernel_rfl) (by kernel_rfl) (by kernel_rfl) (fun _ _ _ h => h) (by kernel_rfl) ?_ (by assumption) ?_
      rotate_left 1
      · (intro wS hSw; (try dsimp only at hSw); go_simp; try with_reducible rfl)
      try simp only [Act.put, List.setIfInBounds_toArray, List.set_cons_zero, List.set_cons_succ]
      refine rg_take (i := 21) (d := some 91) (l := #[true, true, true, true, true, true, true, true, true, true, true, true, true, true, true, true, true, true, true, true, true, true, false, false, false, false, false, false]) (fuel := 6) (v := ?_) rfl (by kernel_rfl) (by kernel_rfl) (by kernel_rfl) (by kernel_rfl) (by kernel_rfl) (fun _ _ _ h => h) (by kernel_rfl) ?_ (by assumption) ?_
      rotate_left 1
      · (intro wS hSw; (try dsimp only at hSw); go_simp; try with_reducible rfl)
      try simp only [Act.put, List.setIfInBounds_toArray, List.set_cons_zero, List.set_cons_succ]
      refine rg_take (i := 22) (d := some 92) (l := #[true, true, true, true, true, true, true, true, true, true, true, true, true, true, true, true, true, true, true, true, true, true, true, false, false, false, false, false]) (fuel := 5) (v := ?_) rfl (by kernel_rfl) (by kernel_rfl) (by kernel_rfl) (by kernel_rfl) (by kernel_rfl) (fun _ _ _ h => h) (by kernel_rfl) ?_ (by assumption) ?_
      rotate_left 1
      · (intro wS hSw; (try dsimp only at hSw); go_simp; try with_reducible rfl)
      try simp only [Act.put, List.setIfInBounds_toArray, List.set_cons_zero, List.set_cons_succ]
      refine rg_take (i := 24) (d := some 94) (l := #[true, true, true, true, true, true, true, true, true, true, true, true, true, true, true, true, true, true, true, true, true, true, true, false, true, false, false, false]) (fuel := 4) (v := ?_) rfl (by kernel_rfl) (by kernel_rfl) (by kernel_rfl) (by kernel_rfl) (by kernel_rfl) (fun _ _ _ h => h) (by kernel_rfl) ?_ (by assumption) ?_
      rotate_left 1
      · (intro wS hSw; (try dsimp only at hSw); go_simp; try with_reducible rfl)
      try simp only [Act.put, List.setIfInBounds_toArray, List.set_cons_zero, List.set_cons_succ]
      refine rg_next (i := 23) (l := #[true, true, true, true, true, true, true, true, true, true, true, true, true, true, true, true, true, true, true, true, true, true, true, true, true, false, false, false]) (fuel := 3) (by kernel_rfl) rfl (by kernel_rfl) (by kernel_rfl) (fun K hK => ?_)
      go_simp
      (go_at_call 25)
      refine (rpieces_any (f := z) (.inr ⟨g, mb, rfl, Q3.out⟩) (fun i _ => HWF.out i)).mono ?_
      rintro e x4 ⟨⟨v4, rs, B4, rfl, r1, r2⟩, b4⟩
      obtain ⟨Ar, cr, rfl, Rr⟩ := prow_any r1 r2
      have RR := Lib.hid Rr
      have R2 := Lib.hid r2
      have BB := Lib.hid b4
      clear r1 r2 Rr b4
      have C4 := Lib.hid (C3.out.below BB.out C3.out.lt)
      have P4 := Lib.hid (P3.out.keep BB.out)
      have D4 := Lib.hid (D3.out.trans (BB.out.mono D3.out.size))
      have cu : x4.cell? ⟨gp, j, none⟩ = some (.int .u8 (z j)) := by (rw [C4.out.cell]; simpa using HBA.out.2 j hj8)
      rw [HL.out]
      first | (refine hK.out _ _ ?_ (fun hHeld => ?_)) | (go_wp2_with fail; refine hK.out _ _ ?_ (fun hHeld => ?_))
      · (try dsimp only); exact cu
      clear hK K
      try simp only [Act.put, List.setIfInBounds_toArray, List.set_cons_zero, List.set_cons_succ]
      refine rg_next (i := 25) (l := #[true, true, true, true, true, true, true, true, true, true, true, true, true, true, true, true, true, true, true, true, true, true, true, true, true, true, false, false]) (fuel := 2) (by kernel_rfl) rfl (by kernel_rfl) (by kernel_rfl) (fun K hK => ?_)
      go_simp
      (go_at_call 41)
      refine (rsameP_yes Ar Aq L _ _ rs qs (by omega) (by rw [← HL.out]; exact RR.out) P4.out (fun i hi => ?_)).mono ?_
      (· have h1 := R2.out i (by rw [HL.out]; exact hi); have h2 := HQ2.out i (by rw [HL.out]; exact hi); exact ⟨by rw [h1.1, h2.1], by rw [h1.2.1, h2.2.1], by rw [h1.2.2.1, h2.2.2.1]⟩)
      rintro e x5 ⟨rfl, b5⟩
      have B5 := Lib.hid b5
      clear b5
      have C5 := Lib.hid (C4.out.below B5.out C4.out.lt)
      have D5 := Lib.hid (D4.out.trans (B5.out.mono D4.out.size))
      have cv : x5.cell? ⟨gp, j, none⟩ = some (.int .u8 (z j)) := by (rw [C5.out.cell]; simpa using HBA.out.2 j hj8)
      first | (refine hK.out _ _ ?_ (fun hHeld => ?_)) | (go_wp2_with fail; refine hK.out _ _ ?_ (fun hHeld => ?_))
      · (try dsimp only); exact cv
      clear hK K
      try simp only [Act.put, List.setIfInBounds_toArray, List.set_cons_zero, List.set_cons_succ]
      refine rg_take (i := 26) (d := some 96) (l := #[true, true, true, true, true, true, true, true, true, true, true, true, true, true, true, true, true, true, true, true, true, true, true, true, true, true, true, false]) (fuel := 1) (v := ?_) rfl (by kernel_rfl) (by kernel_rfl) (by kernel_rfl) (by kernel_rfl) (by kernel_rfl) (fun _ _ _ h => h) (by kernel_rfl) ?_ (by assumption) ?_
      rotate_left 1
      · (intro wS hSw; (try dsimp only at hSw); go_simp; try with_reducible rfl)
      try simp only [Act.put, List.setIfInBounds_toArray, List.set_cons_zero, List.set_cons_succ]
      refine rg_take (i := 27) (d := some 4) (l := #[true, true, true, true, true, true, true, true, true, true, true, true, true, true, true, true, true, true, true, true, true, true, true, true, true, true, true, true]) (fuel := 0) (v := ?_) rfl (by kernel_rfl) (by kernel_rfl) (by kernel_rfl) (by kernel_rfl) (by kernel_rfl) (fun _ _ _ h => h) (by kernel_rfl) ?_ (by assumption) ?_
      rotate_left 1
      · (intro wS hSw; (try dsimp only at hSw); go_simp; try with_reducible rfl)
      try simp only [Act.put, List.setIfInBounds_toArray, List.set_cons_zero, List.set_cons_succ]
      refine wpAnyH_done (by kernel_rfl) ?_ _
      go_wp2_with fail
      go_ret
      exact ⟨by simp, D5.out⟩

theorem own : ownKnob Try.prog.godebug = none := by kernel_rfl
theorem laidOut : laidOutB Try.prog = true := by kernel_rfl
set_option maxRecDepth 100000 in
theorem lifted (os : Os) (started : os.Started) (H : Type) (enc : TypeId × Value → H) :
    ReturnsInHanded {} Try.checked os 10 .any (Rows.topLaidSpec.pre6 enc Try.prog Try.f10 Rows.topLaidRow.domain false) (Rows.topLaidSpec.post enc Try.prog Try.f10 false true false false) := by
  refine returnsInHanded_of_change (C := Try.checked) own started (by kernel_rfl) Try.func10
    (ChangeSpec.witness6 (enc := enc) (C := Try.checked) false ⟨#[], #[.slice none 0 0, .int .u16 0], []⟩ 8 (by kernel_rfl) (by kernel_rfl) (by kernel_rfl) (by kernel_rfl)) ?_
  intro W base args ds gs before hval0 hW _ _
  have hval : ∀ (j : Nat) t v, Try.f10.params[j]? = some t → args[j]? = some v → Value.okWide Try.prog W .any base t v := hval0
  have hW' := hW
  obtain ⟨p, q, hA0, hV, rfl, _, _⟩ := hW
  have hA : DataW.TrodAll enc Try.prog W 0 (fun _ => true) true Try.f10.params.toList args.toList ds p := hA0
  rw [Try.params10] at hA hval
  obtain ⟨v0, vs0, d0, ds0, p0, q0, hargs, rfl, rfl, h0, r0⟩ := trodAll_cons hA
  obtain ⟨v1, vs1, d1, ds1, p1, q1, rfl, rfl, rfl, h1, r1⟩ := trodAll_cons r0
  obtain ⟨rfl, rfl, rfl⟩ := trodAll_nil r1
  obtain rfl : args = #[v0, v1] := by cases args; simp_all
  obtain ⟨rfl, rfl⟩ := trodVars_none hV
  obtain ⟨A0, n0, c0, z0, rfl, g0, m0, R0⟩ := slice_pieces Try.underlying22 Try.underlying25 (by kernel_rfl) (by kernel_rfl) Try.underlying3 Try.underlying23 Try.underlying5 (by kernel_rfl) (hval 0 22 v0 rfl rfl) h0
  obtain ⟨a1, rfl, rfl, rfl, w1⟩ := open_int Try.underlying47 (hval 1 47 v1 rfl rfl) h1
  clear hA0 hval0
  refine (walk A0 n0 c0 z0 g0 m0 R0 a1 w1).mono fun e W' ⟨he, hg⟩ => ?_
  subst he
  exact ⟨_, rfl, law_post rfl Try.underlying4 laidOut (by kernel_rfl) rfl hW' rfl hg⟩

theorem over : Rows.topLaidRow.holds Try.pinned (OpenSpec.ofChange Rows.topLaidSpec) :=
  OpenClaim.holds_of_wide 10 Try.f10 rfl rfl rfl rfl rfl rfl rfl ⟨rfl, rfl, rfl, rfl, rfl⟩ rfl rfl rfl rfl rfl (by kernel_rfl) Try.func10 (by kernel_rfl)
    (of_decide_eq_true (by kernel_rfl)) (by unfold Func.isWrapper; first | (rw [if_pos (by decide +kernel)]; kernel_rfl) | (rw [if_neg (by decide +kernel)]; exact ⟨rfl, rfl⟩))
    (fun os started H enc _ => lifted os started H enc)

theorem proved : Rows.TopLaidSaid := over
#print axioms proved
end Go.Proofs.Ytfhndajhlpakoaa.topLaid
