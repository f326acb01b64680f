/-
  For every input NoiseLinear returns true, and each argument reads behind the call as it read before. No conditions.
-/
import Derived.Test.YtcnjekballnncaaRows
import Derived.Test.YtcnjekballnncaaG3
import Derived.Test.YtcnjekballnncaaNoi9
namespace Go.Proofs.Ytcnjekballnncaa.noiseLinear
open Go.ChangeShapes Go.WideShapes Go.ChangeAt Go.RowKit
open Go.ChangeMaps (open_string)

set_option linter.unusedVariables false
set_option linter.unusedSimpArgs false
set_option maxRecDepth 100000 in
set_option maxHeartbeats 8000000 in
theorem walk (s : Int) (ws : (Lit.int .u32 s).wf = true) (t : Int) (wt : (Lit.int .u32 t).wf = true) (n : Int) (wn : (Lit.int .i64 n).wf = true) (W : World) :
    Calls Try.prog 5 #[.int .u32 s, .int .u32 t, .int .i64 n] W fun e w' => e = .returned (.bool true) ∧ Below W.heap.size W w' := by
  obtain ⟨s0, s1⟩ := bounds_u32 ws
  obtain ⟨t0, t1⟩ := bounds_u32 wt
  obtain ⟨x0, x1⟩ := bounds_i64 wn
  obtain ⟨S, rfl⟩ := Int.eq_ofNat_of_zero_le s0
  obtain ⟨U, rfl⟩ := Int.eq_ofNat_of_zero_le t0
  clear ws wt wn s0 t0
  have hS : S < 4294967296 := by omega
  have hU : U < 4294967296 := by omega
  have eX := bits_xor_nat S U hS hU
  have lX : S ^^^ U < 4294967296 := Nat.xor_lt_two_pow (n := 32) hS hU
  have mX : (S ^^^ U) % 2 ^ 18 = (S % 2 ^ 18) ^^^ (U % 2 ^ 18) := Nat.xor_mod_two_pow
  obtain ⟨X, hX⟩ : ∃ X, S ^^^ U = X := ⟨_, rfl⟩
  rw [hX] at eX lX mX
  have lS : S % 2 ^ 18 < 2 ^ 18 := Nat.mod_lt _ (by decide)
  have lU : U % 2 ^ 18 < 2 ^ 18 := Nat.mod_lt _ (by decide)
  have ln := jmp_lin n
  obtain ⟨A, hA⟩ : ∃ A, jmp n (S % 2 ^ 18) = A := ⟨_, rfl⟩
  obtain ⟨B, hB⟩ : ∃ B, jmp n (U % 2 ^ 18) = B := ⟨_, rfl⟩
  have lA : A < 2 ^ 18 := by rw [← hA]; exact jmp_lt n lS
  have lB : B < 2 ^ 18 := by rw [← hB]; exact jmp_lt n lU
  obtain ⟨C, hC⟩ : ∃ C, A ^^^ B = C := ⟨_, rfl⟩
  have jX : jmp n (X % 2 ^ 18) = C := by rw [mX, ln.xor _ _ lS lU, hA, hB, hC]
  have eC := bits_xor_nat A B (by omega) (by omega)
  rw [hC] at eC
  have jZ : jmp n (0 % 2 ^ 18) = 0 := ln.zero
  have t2 : ((C : Int) == C) = true := by simp
  have HA := Lib.hid hA
  have HB' := Lib.hid hB
  have JX := Lib.hid jX
  have JZ := Lib.hid jZ
  clear hA hB hC jX jZ hX mX lS lU ln
  go_enter Try.func5, Try.ntmps5
  go_wp2_with fail
  refine (liveN_any _).mono ?_
  rintro e w0 ⟨rfl, b0⟩
  have HB0 := Lib.hid b0
  clear b0
  go_wp2_with fail
  refine (jump_v X rfl lX (by omega) (v := (C : Int)) (by rw [JX.out])).mono ?_
  rintro e w1 ⟨rfl, b1⟩
  have HB1 := Lib.hid (HB0.out.trans (b1.mono HB0.out.size))
  clear b1 HB0
  go_wp2_with fail
  refine (jump_v S rfl hS (by omega) (v := (A : Int)) (by rw [HA.out])).mono ?_
  rintro e w2 ⟨rfl, b2⟩
  have HB2 := Lib.hid (HB1.out.trans (b2.mono HB1.out.size))
  clear b2 HB1
  go_wp2_with fail
  refine (jump_v U rfl hU (by omega) (v := (B : Int)) (by rw [HB'.out])).mono ?_
  rintro e w3 ⟨rfl, b3⟩
  have HB3 := Lib.hid (HB2.out.trans (b3.mono HB2.out.size))
  clear b3 HB2
  go_wp2_with fail
  refine (jump_v 0 rfl (by decide) (by omega) (v := 0) (by rw [JZ.out]; rfl)).mono ?_
  rintro e w4 ⟨rfl, b4⟩
  have HB4 := Lib.hid (HB3.out.trans (b4.mono HB3.out.size))
  clear b4 HB3
  go_wp2_with fail
  go_ret
  exact ⟨rfl, HB4.out⟩

theorem own : ownKnob Try.prog.godebug = none := by kernel_rfl
theorem laidOut : laidOutB Try.prog = true := by kernel_rfl
set_option maxRecDepth 100000 in
theorem lifted (os : Os) (started : os.Started) (H : Type) (enc : TypeId × Value → H) :
    ReturnsInHanded {} Try.checked os 5 .any (Rows.noiseLinearSpec.pre6 enc Try.prog Try.f5 Rows.noiseLinearRow.domain false) (Rows.noiseLinearSpec.post enc Try.prog Try.f5 false true false false) := by
  refine returnsInHanded_of_change (C := Try.checked) own started (by kernel_rfl) Try.func5
    (ChangeSpec.witness6 (enc := enc) (C := Try.checked) false ⟨#[], #[.int .u32 0, .int .u32 0, .int .i64 0], []⟩ 8 (by kernel_rfl) (by kernel_rfl) (by kernel_rfl) (by kernel_rfl)) ?_
  intro W base args ds gs before hval0 hW _ _
  have hval : ∀ (j : Nat) t v, Try.f5.params[j]? = some t → args[j]? = some v → Value.okWide Try.prog W .any base t v := hval0
  have hW' := hW
  obtain ⟨p, q, hA0, hV, rfl, _, _⟩ := hW
  have hA : DataW.TrodAll enc Try.prog W 0 (fun _ => true) true Try.f5.params.toList args.toList ds p := hA0
  rw [Try.params5] at hA hval
  obtain ⟨v0, vs0, d0, ds0, p0, q0, hargs, rfl, rfl, h0, r0⟩ := trodAll_cons hA
  obtain ⟨v1, vs1, d1, ds1, p1, q1, rfl, rfl, rfl, h1, r1⟩ := trodAll_cons r0
  obtain ⟨v2, vs2, d2, ds2, p2, q2, rfl, rfl, rfl, h2, r2⟩ := trodAll_cons r1
  obtain ⟨rfl, rfl, rfl⟩ := trodAll_nil r2
  obtain rfl : args = #[v0, v1, v2] := by cases args; simp_all
  obtain ⟨rfl, rfl⟩ := trodVars_none hV
  obtain ⟨a0, rfl, rfl, rfl, w0⟩ := open_int Try.underlying22 (hval 0 22 v0 rfl rfl) h0
  obtain ⟨a1, rfl, rfl, rfl, w1⟩ := open_int Try.underlying22 (hval 1 22 v1 rfl rfl) h1
  obtain ⟨a2, rfl, rfl, rfl, w2⟩ := open_int Try.underlying2 (hval 2 2 v2 rfl rfl) h2
  clear hA0 hval0
  refine (walk a0 w0 a1 w1 a2 w2 W).mono fun e W' ⟨he, hg⟩ => ?_
  subst he
  exact ⟨_, rfl, law_post rfl Try.underlying4 laidOut (by kernel_rfl) rfl hW' rfl hg⟩

theorem over : Rows.noiseLinearRow.holds Try.pinned (OpenSpec.ofChange Rows.noiseLinearSpec) :=
  OpenClaim.holds_of_wide 5 Try.f5 rfl rfl rfl rfl rfl rfl rfl ⟨rfl, rfl, rfl, rfl, rfl⟩ rfl rfl rfl rfl rfl (by kernel_rfl) Try.func5 (by kernel_rfl)
    (of_decide_eq_true (by kernel_rfl)) (by unfold Func.isWrapper; first | (rw [if_pos (by decide +kernel)]; kernel_rfl) | (rw [if_neg (by decide +kernel)]; exact ⟨rfl, rfl⟩))
    (fun os started H enc _ => lifted os started H enc)

theorem proved : Rows.NoiseLinearSaid := over
#print axioms proved
end Go.Proofs.Ytcnjekballnncaa.noiseLinear
