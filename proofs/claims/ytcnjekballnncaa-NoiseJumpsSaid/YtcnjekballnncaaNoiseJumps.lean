/-
  For every input NoiseJumps returns true, and each argument reads behind the call as it read before. No conditions.
-/
import Derived.Test.YtcnjekballnncaaRows
import Derived.Test.YtcnjekballnncaaG3
import Derived.Test.YtcnjekballnncaaNoi9
namespace Go.Proofs.Ytcnjekballnncaa.noiseJumps
open Go.ChangeShapes Go.WideShapes Go.ChangeAt Go.RowKit
open Go.ChangeMaps (open_string)

theorem tdiv4 (x : Int) (h0 : -9223372036854775808 ≤ x) (h1 : x ≤ 9223372036854775807) : -2305843009213693952 ≤ Int.tdiv x 4 ∧ Int.tdiv x 4 ≤ 2305843009213693951 := by
  rcases Int.le_total 0 x with h | h
  · rw [Int.tdiv_eq_ediv_of_nonneg h]; omega
  · obtain ⟨y, rfl⟩ : ∃ y, x = -y := ⟨-x, by omega⟩
    rw [Int.neg_tdiv, Int.tdiv_eq_ediv_of_nonneg (by omega)]; omega

set_option linter.unusedVariables false
set_option linter.unusedSimpArgs false
set_option maxRecDepth 100000 in
set_option maxHeartbeats 8000000 in
theorem walk (s : Int) (ws : (Lit.int .u32 s).wf = true) (a0 : Int) (wa : (Lit.int .i64 a0).wf = true) (b0 : Int) (wb : (Lit.int .i64 b0).wf = true) (W : World) :
    Calls Try.prog 4 #[.int .u32 s, .int .i64 a0, .int .i64 b0] W fun e w' => e = .returned (.bool true) ∧ Below W.heap.size W w' := by
  obtain ⟨s0, s1⟩ := bounds_u32 ws
  obtain ⟨x0, x1⟩ := bounds_i64 wa
  obtain ⟨y0, y1⟩ := bounds_i64 wb
  obtain ⟨S, rfl⟩ := Int.eq_ofNat_of_zero_le s0
  clear ws wa wb s0
  have hS : S < 4294967296 := by omega
  have qa := tdiv4 a0 x0 x1
  have qb := tdiv4 b0 y0 y1
  obtain ⟨a, ha⟩ : ∃ a, Int.tdiv a0 4 = a := ⟨_, rfl⟩
  obtain ⟨b, hb⟩ : ∃ b, Int.tdiv b0 4 = b := ⟨_, rfl⟩
  rw [ha] at qa
  rw [hb] at qb
  have la : -2305843009213693952 ≤ a ∧ a ≤ 2305843009213693951 := by omega
  have lb : -2305843009213693952 ≤ b ∧ b ≤ 2305843009213693951 := by omega
  obtain ⟨T, hT⟩ : ∃ T, S % 2 ^ 18 = T := ⟨_, rfl⟩
  have lT : T < 2 ^ 18 := by rw [← hT]; exact Nat.mod_lt _ (by decide)
  obtain ⟨A, hA⟩ : ∃ A, jmp a T = A := ⟨_, rfl⟩
  obtain ⟨X, hX⟩ : ∃ X, jmp b A = X := ⟨_, rfl⟩
  have lA : A < 2 ^ 18 := by rw [← hA]; exact jmp_lt a lT
  have lX : X < 2 ^ 18 := by rw [← hX]; exact jmp_lt b lA
  have jX : jmp (a + b) T = X := by rw [jmp_add _ _ lT, hA, hX]
  have jB : jmp (-b) X = A := by rw [← hX, ← jmp_add _ _ lA, Int.add_right_neg]; rfl
  have t1 : ((A : Int) == A) = true := by simp
  have t2 : ((X : Int) == X) = true := by simp
  have HT := Lib.hid hT
  have HA := Lib.hid hA
  have HX := Lib.hid hX
  have JX := Lib.hid jX
  have JB := Lib.hid jB
  clear hT hA hX jX jB
  go_enter Try.func4, Try.ntmps4
  go_wp2_with fail
  refine (liveN_any _).mono ?_
  rintro e w0 ⟨rfl, b0⟩
  have HB0 := Lib.hid b0
  clear b0
  go_wp2_with fail
  try rw [ha]
  try rw [hb]
  refine (jump_v S rfl hS (by omega) (v := (A : Int)) (by rw [HT.out, HA.out])).mono ?_
  rintro e w1 ⟨rfl, b1⟩
  have HB1 := Lib.hid (HB0.out.trans (b1.mono HB0.out.size))
  clear b1 HB0
  go_wp2_with fail
  refine (jump_v A rfl (by omega) (by omega) (v := (X : Int)) (by rw [Nat.mod_eq_of_lt lA, HX.out])).mono ?_
  rintro e w2 ⟨rfl, b2⟩
  have HB2 := Lib.hid (HB1.out.trans (b2.mono HB1.out.size))
  clear b2 HB1
  go_wp2_with fail
  refine (jump_v S rfl hS (by omega) (v := (X : Int)) (by rw [HT.out, JX.out])).mono ?_
  rintro e w3 ⟨rfl, b3⟩
  have HB3 := Lib.hid (HB2.out.trans (b3.mono HB2.out.size))
  clear b3 HB2
  go_wp2_with fail
  refine (jump_v X rfl (by omega) (by omega) (v := (A : Int)) (by rw [Nat.mod_eq_of_lt lX, JB.out])).mono ?_
  rintro e w4 ⟨rfl, b4⟩
  have HB4 := Lib.hid (HB3.out.trans (b4.mono HB3.out.size))
  clear b4 HB3
  go_wp2_with fail
  refine (jump_v S rfl hS (by omega) (v := (A : Int)) (by rw [HT.out, HA.out])).mono ?_
  rintro e w5 ⟨rfl, b5⟩
  have HB5 := Lib.hid (HB4.out.trans (b5.mono HB4.out.size))
  clear b5 HB4
  go_wp2_with fail
  go_ret
  exact ⟨rfl, HB5.out⟩

theorem own : ownKnob Try.prog.godebug = none := by kernel_rfl
theorem laidOut : laidOutB Try.prog = true := by kernel_rfl
set_option maxRecDepth 100000 in
theorem lifted (os : Os) (started : os.Started) (H : Type) (enc : TypeId × Value → H) :
    ReturnsInHanded {} Try.checked os 4 .any (Rows.noiseJumpsSpec.pre6 enc Try.prog Try.f4 Rows.noiseJumpsRow.domain false) (Rows.noiseJumpsSpec.post enc Try.prog Try.f4 false true false false) := by
  refine returnsInHanded_of_change (C := Try.checked) own started (by kernel_rfl) Try.func4
    (ChangeSpec.witness6 (enc := enc) (C := Try.checked) false ⟨#[], #[.int .u32 0, .int .i64 0, .int .i64 0], []⟩ 8 (by kernel_rfl) (by kernel_rfl) (by kernel_rfl) (by kernel_rfl)) ?_
  intro W base args ds gs before hval0 hW _ _
  have hval : ∀ (j : Nat) t v, Try.f4.params[j]? = some t → args[j]? = some v → Value.okWide Try.prog W .any base t v := hval0
  have hW' := hW
  obtain ⟨p, q, hA0, hV, rfl, _, _⟩ := hW
  have hA : DataW.TrodAll enc Try.prog W 0 (fun _ => true) true Try.f4.params.toList args.toList ds p := hA0
  rw [Try.params4] at hA hval
  obtain ⟨v0, vs0, d0, ds0, p0, q0, hargs, rfl, rfl, h0, r0⟩ := trodAll_cons hA
  obtain ⟨v1, vs1, d1, ds1, p1, q1, rfl, rfl, rfl, h1, r1⟩ := trodAll_cons r0
  obtain ⟨v2, vs2, d2, ds2, p2, q2, rfl, rfl, rfl, h2, r2⟩ := trodAll_cons r1
  obtain ⟨rfl, rfl, rfl⟩ := trodAll_nil r2
  obtain rfl : args = #[v0, v1, v2] := by cases args; simp_all
  obtain ⟨rfl, rfl⟩ := trodVars_none hV
  obtain ⟨a0, rfl, rfl, rfl, w0⟩ := open_int Try.underlying22 (hval 0 22 v0 rfl rfl) h0
  obtain ⟨a1, rfl, rfl, rfl, w1⟩ := open_int Try.underlying2 (hval 1 2 v1 rfl rfl) h1
  obtain ⟨a2, rfl, rfl, rfl, w2⟩ := open_int Try.underlying2 (hval 2 2 v2 rfl rfl) h2
  clear hA0 hval0
  refine (walk a0 w0 a1 w1 a2 w2 W).mono fun e W' ⟨he, hg⟩ => ?_
  subst he
  exact ⟨_, rfl, law_post rfl Try.underlying4 laidOut (by kernel_rfl) rfl hW' rfl hg⟩

theorem over : Rows.noiseJumpsRow.holds Try.pinned (OpenSpec.ofChange Rows.noiseJumpsSpec) :=
  OpenClaim.holds_of_wide 4 Try.f4 rfl rfl rfl rfl rfl rfl rfl ⟨rfl, rfl, rfl, rfl, rfl⟩ rfl rfl rfl rfl rfl (by kernel_rfl) Try.func4 (by kernel_rfl)
    (of_decide_eq_true (by kernel_rfl)) (by unfold Func.isWrapper; first | (rw [if_pos (by decide +kernel)]; kernel_rfl) | (rw [if_neg (by decide +kernel)]; exact ⟨rfl, rfl⟩))
    (fun os started H enc _ => lifted os started H enc)

theorem proved : Rows.NoiseJumpsSaid := over
#print axioms proved
end Go.Proofs.Ytcnjekballnncaa.noiseJumps
