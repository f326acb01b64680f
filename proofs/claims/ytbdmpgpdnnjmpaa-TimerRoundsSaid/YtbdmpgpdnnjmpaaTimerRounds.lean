/-
  For every input TimerRounds returns true, and each argument reads behind the call as it read before. No conditions.
-/
import Derived.Test.YtbdmpgpdnnjmpaaRows
import Derived.Test.YtbdmpgpdnnjmpaaG3
import Derived.Test.YtbdmpgpdnnjmpaaTim6
namespace Go.Proofs.Ytbdmpgpdnnjmpaa.timerRounds
open Go.ChangeShapes Go.WideShapes Go.ChangeAt Go.RowKit
open Go.ChangeMaps (open_string)

set_option linter.unusedVariables false
set_option linter.unusedSimpArgs false
/-- How many master clocks are left, whatever was counted. -/
theorem left_eq (R f : Nat) : ∃ M N P : Nat, f % P = M ∧ (R + 1) * 3072 = P ∧ M + N = P ∧ N = 3072 - f % 3072 + 3072 * tkC R (f / 3072) R ∧ tkC R (f / 3072) R ≤ R := by
  refine ⟨f % ((R + 1) * 3072), _, _, rfl, rfl, ?_, rfl, tkC_le (Nat.le_refl R) (Nat.le_refl R)⟩
  rw [tk_begun, Nat.mul_comm (R + 1) 3072, Nat.mod_mul]
  have h1 := Nat.mod_lt (f / 3072) (by omega : 0 < R + 1)
  have h2 := Nat.mod_lt f (by omega : 0 < 3072)
  generalize f / 3072 % (R + 1) = x at *
  omega
set_option maxRecDepth 100000 in
set_option maxHeartbeats 8000000 in
theorem walk (re : Int) (wr : (Lit.int .u8 re).wf = true) (f : Int) (wf : (Lit.int .u32 f).wf = true) (k : Int) (wk : (Lit.int .u16 k).wf = true) (W : World) :
    Calls Try.prog 5 #[.int .u8 re, .int .u32 f, .int .u16 k] W fun e w' => e = .returned (.bool true) ∧ Below W.heap.size W w' := by
  obtain ⟨r0, r1⟩ := bounds_u8 wr
  obtain ⟨f0, f1⟩ := bounds_u32 wf
  obtain ⟨k0, k1⟩ := bounds_u16 wk
  obtain ⟨f, rfl⟩ := Int.eq_ofNat_of_zero_le f0
  obtain ⟨k, rfl⟩ := Int.eq_ofNat_of_zero_le k0
  clear wr wf wk f0 k0
  obtain ⟨R, hR⟩ : ∃ R : Nat, (re % 128).toNat = R := ⟨_, rfl⟩
  have eR : re % 128 = (R : Int) := by omega
  have hR1 : R ≤ 127 := by omega
  obtain ⟨M, N, P, hM, hP, hMN, hN, hCR⟩ := left_eq R f
  obtain ⟨C, hC⟩ : ∃ C, tkC R (f / 3072) R = C := ⟨_, rfl⟩
  obtain ⟨G, hG⟩ : ∃ G, f % 3072 = G := ⟨_, rfl⟩
  rw [hC] at hN hCR
  rw [hG] at hN
  have hG1 : G < 3072 := by omega
  have hP1 : 3072 ≤ P ∧ P ≤ 393216 := by omega
  obtain ⟨Q, hQ⟩ : ∃ Q, k * P = Q := ⟨_, rfl⟩
  have hQ1 : Q ≤ 25769803776 := by
    have : k * P ≤ 65535 * 393216 := Nat.mul_le_mul (by omega) hP1.2
    omega
  have eP : ((R : Int) + 1) * 3072 = (P : Int) := by omega
  have eM : (f : Int) % (P : Int) = (M : Int) := by rw [← hM]; rfl
  have eM2 : Int.tmod (f : Int) (P : Int) = (M : Int) := by rw [Int.tmod_eq_emod_of_nonneg (by omega)]; exact eM
  have eN : (P : Int) - (M : Int) = (N : Int) := by omega
  have eQ : (k : Int) * (P : Int) = (Q : Int) := by rw [← hQ]; simp
  have hQ2 : Q = 3072 * (k * (R + 1)) := by rw [← hQ, ← hP, Nat.mul_comm (R + 1) 3072, Nat.mul_left_comm]
  have hN1 : 1 ≤ N ∧ N ≤ 393216 := by omega
  have HR := Lib.hid hR
  have HC := Lib.hid hC
  have HG := Lib.hid hG
  have HN := Lib.hid hN
  have HQ := Lib.hid hQ2
  have HP := Lib.hid hMN
  clear hR hM hP hMN hN hC hG hQ hQ2
  go_enter Try.func5, Try.ntmps5
  go_wp2_with fail
  refine (liveT_any _).mono ?_
  rintro e w1 ⟨rfl, hB1⟩
  have HB1 := Lib.hid hB1
  clear hB1
  go_wp2_with fail
  refine (tnew_any _).mono ?_
  rintro e w2 ⟨rfl, t2, b2⟩
  have hg : W.heap.size ≤ w1.heap.size := HB1.out.size
  have T2 : Hid (T0 w2 w1.heap.size Tm.new) := Lib.hid t2
  have HB2 := Lib.hid (HB1.out.trans (b2.mono hg))
  clear t2 b2 HB1
  generalize w1.heap.size = g at *
  go_wp2_with fail
  refine (twrite_v T2.out r0 r1 (s' := ⟨0, 0, R, false⟩) (by rw [← HR.out]; rfl)).mono ?_
  rintro e w3 ⟨rfl, t3, k3⟩
  have T3 := Lib.hid t3
  have HB3 := Lib.hid (k3.onto HB2.out HB2.out.size (by simpa using hg))
  clear t3 k3 T2 HB2
  go_wp2_with fail
  refine (tuntil_v T3.out (v := .tuple #[.int .i64 0, .bool false]) (by rfl)).mono ?_
  rintro e w4 ⟨rfl, k4⟩
  have T4 : Hid (T0 w4 g ⟨0, 0, R, false⟩) := Lib.hid (TM.kp T3.out k4 (by simp))
  have HB4 := Lib.hid (k4.onto HB3.out HB3.out.size (by simp))
  clear k4 T3 HB3
  go_wp2_with fail
  refine (twrite_v T4.out (by omega) (by omega) (s' := ⟨0, R, R, true⟩) (by rfl)).mono ?_
  rintro e w5 ⟨rfl, t5, k5⟩
  have T5 := Lib.hid t5
  have HB5 := Lib.hid (k5.onto HB4.out HB4.out.size (by simpa using hg))
  clear t5 k5 T4 HB4
  go_wp2_with fail
  refine (tgo_v T5.out (n := (f : Int)) (by omega) (s' := ⟨G, C, R, true⟩) (by show Tm.goN _ f = _; rw [← HG.out, ← HC.out]; unfold Tm.goN; simp) rfl).mono ?_
  rintro e w6 ⟨rfl, t6, k6⟩
  have T6 := Lib.hid t6
  have HB6 := Lib.hid (k6.onto HB5.out HB5.out.size (by simpa using hg))
  clear t6 k6 T5 HB5
  go_wp2_with fail
  refine (tuntil_v T6.out (v := .tuple #[.int .i64 (N : Int), .bool true]) (by unfold Tm.till; rw [if_pos rfl, HN.out]; congr 3; dsimp only; congr 1; omega)).mono ?_
  rintro e w7 ⟨rfl, k7⟩
  have T7 : Hid (T0 w7 g ⟨G, C, R, true⟩) := Lib.hid (TM.kp T6.out k7 (by simp))
  have HB7 := Lib.hid (k7.onto HB6.out HB6.out.size (by simp))
  have nN : ((N : Int) != N) = false := by simp
  have nR : ((R : Int) != R) = false := by simp
  have jP : ¬ (P : Int) = 0 := by omega
  have jP2 : ((P : Int) == 0) = false := by simpa using jP
  have jP3 : (0 : Int) < (P : Int) := by omega
  clear k7 T6 HB6
  go_wp2_with fail
  refine (tclone_any T7.out).mono ?_
  rintro e w8 ⟨rfl, t8, b8⟩
  have hg7 : g < w7.heap.size := TM.lt T7.out
  have hW7 : W.heap.size ≤ w7.heap.size := HB7.out.size
  have T8 : Hid (T0 w8 g ⟨G, C, R, true⟩) := Lib.hid (TM.keep T7.out b8 hg7)
  have U8 : Hid (T0 w8 w7.heap.size ⟨G, C, R, true⟩) := Lib.hid t8
  have HB8 := Lib.hid (HB7.out.trans (b8.mono hW7))
  clear t8 b8 T7 HB7
  generalize w7.heap.size = q at *
  go_wp2_with fail
  refine (tgo_v U8.out (n := (N : Int) - 1) (by omega) (s' := ⟨3071, 0, R, true⟩) (x := 0) (by
    have h1 : ((N : Int) - 1).toNat = N - 1 := by omega
    have h2 : (G + (N - 1)) % 3072 = 3071 := by have := HN.out; omega
    have h3 : (G + (N - 1)) / 3072 = C := by have := HN.out; omega
    unfold Tm.goN
    rw [if_pos rfl, h1]
    dsimp only
    rw [h2, h3, (tk_down (Nat.le_refl C)).1, Nat.sub_self]) (by
    have h1 : ((N : Int) - 1).toNat = N - 1 := by omega
    have h3 : (G + (N - 1)) / 3072 = C := by have := HN.out; omega
    unfold Tm.overN
    rw [if_pos rfl, h1]
    dsimp only
    rw [h3, (tk_down (Nat.le_refl C)).2]; rfl)).mono ?_
  rintro e w9 ⟨rfl, t9, k9⟩
  have U9 := Lib.hid t9
  have T9 : Hid (T0 w9 g ⟨G, C, R, true⟩) := Lib.hid (TM.kp T8.out k9 (by simp; omega))
  have HB9 := Lib.hid (k9.onto HB8.out HB8.out.size (by simp; omega))
  clear t9 k9 T8 U8 HB8
  go_wp2_with fail
  refine (tgo_v U9.out (n := 1) (by omega) (s' := ⟨0, R, R, true⟩) (x := 1) (by simp [Tm.goN, tkC, tkS]) (by simp [Tm.overN, tkO])).mono ?_
  rintro e w10 ⟨rfl, t10, k10⟩
  have U10 := Lib.hid t10
  have T10 : Hid (T0 w10 g ⟨G, C, R, true⟩) := Lib.hid (TM.kp T9.out k10 (by simp; omega))
  have HB10 := Lib.hid (k10.onto HB9.out HB9.out.size (by simp; omega))
  clear t10 k10 T9 U9 HB9
  go_wp2_with fail
  refine (tleft_v U10.out (x := 3072) rfl).mono ?_
  rintro e w' ⟨rfl, rfl⟩
  go_wp2_with fail
  refine (tcounter_v U10.out (x := R) rfl).mono ?_
  rintro e w' ⟨rfl, rfl⟩
  go_wp2_with fail
  refine (tgo_v T10.out (n := (N : Int) + (Q : Int)) (by omega) (s' := Tm.goN ⟨G, C, R, true⟩ (N + Q)) (x := (k : Int) + 1) (by rw [show ((N : Int) + (Q : Int)).toNat = N + Q by omega]) (by
    have h1 : ((N : Int) + (Q : Int)).toNat = N + Q := by omega
    have h3 : (G + (N + Q)) / 3072 = C + 1 + k * (R + 1) := by have := HN.out; have := HQ.out; omega
    unfold Tm.overN
    rw [if_pos rfl, h1]
    dsimp only
    rw [h3, tk_rounds]; omega)).mono ?_
  rintro e w11 ⟨rfl, t11, k11⟩
  have HB11 := Lib.hid (k11.onto HB10.out HB10.out.size (by simpa using hg))
  have tK : (((k : Int) + 1) == (k : Int) + 1) = true := by simp
  clear t11 k11
  go_wp2_with fail
  go_ret
  exact ⟨by simp, HB11.out⟩

theorem own : ownKnob Try.prog.godebug = none := by kernel_rfl
theorem laidOut : laidOutB Try.prog = true := by kernel_rfl
set_option maxRecDepth 100000 in
theorem lifted (os : Os) (started : os.Started) (H : Type) (enc : TypeId × Value → H) :
    ReturnsInHanded {} Try.checked os 5 .any (Rows.timerRoundsSpec.pre6 enc Try.prog Try.f5 Rows.timerRoundsRow.domain false) (Rows.timerRoundsSpec.post enc Try.prog Try.f5 false true false false) := by
  refine returnsInHanded_of_change (C := Try.checked) own started (by kernel_rfl) Try.func5
    (ChangeSpec.witness6 (enc := enc) (C := Try.checked) false ⟨#[], #[.int .u8 0, .int .u32 0, .int .u16 0], []⟩ 8 (by kernel_rfl) (by kernel_rfl) (by kernel_rfl) (by kernel_rfl)) ?_
  intro W base args ds gs before hval0 hW _ _
  have hval : ∀ (j : Nat) t v, Try.f5.params[j]? = some t → args[j]? = some v → Value.okWide Try.prog W .any base t v := hval0
  have hW' := hW
  obtain ⟨p, q, hA0, hV, rfl, _, _⟩ := hW
  have hA : DataW.TrodAll enc Try.prog W 0 (fun _ => true) true Try.f5.params.toList args.toList ds p := hA0
  rw [Try.params5] at hA hval
  obtain ⟨v0, vs0, d0, ds0, p0, q0, hargs, rfl, rfl, h0, r0⟩ := trodAll_cons hA
  obtain ⟨v1, vs1, d1, ds1, p1, q1, rfl, rfl, rfl, h1, r1⟩ := trodAll_cons r0
  obtain ⟨v2, vs2, d2, ds2, p2, q2, rfl, rfl, rfl, h2, r2⟩ := trodAll_cons r1
  obtain ⟨rfl, rfl, rfl⟩ := trodAll_nil r2
  obtain rfl : args = #[v0, v1, v2] := by cases args; simp_all
  obtain ⟨rfl, rfl⟩ := trodVars_none hV
  obtain ⟨a0, rfl, rfl, rfl, w0⟩ := open_int Try.underlying5 (hval 0 5 v0 rfl rfl) h0
  obtain ⟨a1, rfl, rfl, rfl, w1⟩ := open_int Try.underlying35 (hval 1 35 v1 rfl rfl) h1
  obtain ⟨a2, rfl, rfl, rfl, w2⟩ := open_int Try.underlying39 (hval 2 39 v2 rfl rfl) h2
  clear hA0 hval0
  refine (walk a0 w0 a1 w1 a2 w2 W).mono fun e W' ⟨he, hg⟩ => ?_
  subst he
  exact ⟨_, rfl, law_post rfl Try.underlying4 laidOut (by kernel_rfl) rfl hW' rfl hg⟩

theorem over : Rows.timerRoundsRow.holds Try.pinned (OpenSpec.ofChange Rows.timerRoundsSpec) :=
  OpenClaim.holds_of_wide 5 Try.f5 rfl rfl rfl rfl rfl rfl rfl ⟨rfl, rfl, rfl, rfl, rfl⟩ rfl rfl rfl rfl rfl (by kernel_rfl) Try.func5 (by kernel_rfl)
    (of_decide_eq_true (by kernel_rfl)) (by unfold Func.isWrapper; first | (rw [if_pos (by decide +kernel)]; kernel_rfl) | (rw [if_neg (by decide +kernel)]; exact ⟨rfl, rfl⟩))
    (fun os started H enc _ => lifted os started H enc)

theorem proved : Rows.TimerRoundsSaid := over
#print axioms proved
end Go.Proofs.Ytbdmpgpdnnjmpaa.timerRounds
