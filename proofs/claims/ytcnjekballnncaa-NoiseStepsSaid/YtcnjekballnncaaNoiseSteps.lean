/-
  For every input NoiseSteps returns true, and each argument reads behind the call as it read before. No conditions.
-/
import Derived.Test.YtcnjekballnncaaRows
import Derived.Test.YtcnjekballnncaaG3
import Derived.Test.YtcnjekballnncaaNoi9
namespace Go.Proofs.Ytcnjekballnncaa.noiseSteps
open Go.ChangeShapes Go.WideShapes Go.ChangeAt Go.RowKit
open Go.ChangeMaps (open_string)

set_option linter.unusedVariables false
set_option linter.unusedSimpArgs false
set_option maxRecDepth 100000 in
set_option maxHeartbeats 8000000 in
theorem walk (s : Int) (ws : (Lit.int .u32 s).wf = true) (n : Int) (wn : (Lit.int .u16 n).wf = true) (W : World) :
    Calls Try.prog 3 #[.int .u32 s, .int .u16 n] W fun e w' => e = .returned (.bool true) ∧ Below W.heap.size W w' := by
  obtain ⟨s0, s1⟩ := bounds_u32 ws
  obtain ⟨n0, n1⟩ := bounds_u16 wn
  obtain ⟨S, rfl⟩ := Int.eq_ofNat_of_zero_le s0
  obtain ⟨m, rfl⟩ := Int.eq_ofNat_of_zero_le n0
  clear ws wn s0 n0
  have hS : S < 4294967296 := by omega
  obtain ⟨K, hK⟩ : ∃ K, m % 2000 = K := ⟨_, rfl⟩
  have eK : (m : Int) % 2000 = (K : Int) := by omega
  have lK : K < 2000 := by omega
  obtain ⟨T, hT⟩ : ∃ T, S % 2 ^ 18 = T := ⟨_, rfl⟩
  have lT : T < 2 ^ 18 := by rw [← hT]; exact Nat.mod_lt _ (by decide)
  have eT : (S : Int) % 262144 = (T : Int) := by rw [← hT]; rfl
  obtain ⟨V, hV⟩ : ∃ V, it nx K T = V := ⟨_, rfl⟩
  have lV : V < 2 ^ 18 := by rw [← hV]; exact it_lt nx_lin K lT
  have jV : jmp (K : Int) T = V := by unfold jmp; rw [if_pos (by omega)]; exact hV
  have jB : jmp (-(K : Int)) (V % 2 ^ 18) = T := by
    rw [Nat.mod_eq_of_lt lV, ← jV, ← jmp_add _ _ lT, Int.add_right_neg]; rfl
  obtain ⟨A, hA⟩ : ∃ A, nx T = A := ⟨_, rfl⟩
  obtain ⟨B, hB⟩ : ∃ B, bk T = B := ⟨_, rfl⟩
  have lA : A < 2 ^ 18 := by rw [← hA]; exact nx_lt T lT
  have lB : B < 2 ^ 18 := by rw [← hB]; exact bk_lt T
  have bA : bk (A % 2 ^ 18) = T := by rw [Nat.mod_eq_of_lt lA, ← hA]; exact bk_nx T lT
  have nB : nx (B % 2 ^ 18) = T := by rw [Nat.mod_eq_of_lt lB, ← hB]; exact nx_bk T lT
  have t1 : ((A : Int) == A) = true := by simp
  have t2 : ((V : Int) == V) = true := by simp
  have t3 : ((T : Int) == T) = true := by simp
  have HT := Lib.hid hT
  have HV := Lib.hid hV
  have JV := Lib.hid jV
  have JB := Lib.hid jB
  have HA := Lib.hid hA
  have HB' := Lib.hid hB
  have BA := Lib.hid bA
  have NB' := Lib.hid nB
  clear hK hT hV jV jB hA hB bA nB
  go_enter Try.func3, Try.ntmps3
  go_wp2_with fail
  refine (liveN_any _).mono ?_
  rintro e w0 ⟨rfl, b0⟩
  have HB0 := Lib.hid b0
  clear b0
  go_wp2_with fail
  refine (rjump_any S K hS (by omega) _).mono ?_
  rw [HT.out, HV.out]
  rintro e w1 ⟨rfl, b1⟩
  have HB1 := Lib.hid (HB0.out.trans (b1.mono HB0.out.size))
  clear b1 HB0
  go_wp2_with fail
  refine (next_v S rfl hS (v := (A : Int)) (by rw [HT.out, HA.out])).mono ?_
  rintro e w2 ⟨rfl, b2⟩
  have HB2 := Lib.hid (HB1.out.trans (b2.mono HB1.out.size))
  clear b2 HB1
  go_wp2_with fail
  refine (rnext_any S hS _).mono ?_
  rw [HT.out, HA.out]
  rintro e w3 ⟨rfl, b3⟩
  have HB3 := Lib.hid (HB2.out.trans (b3.mono HB2.out.size))
  clear b3 HB2
  go_wp2_with fail
  refine (jump_v S rfl hS (by omega) (v := (V : Int)) (by rw [HT.out, JV.out])).mono ?_
  rintro e w4 ⟨rfl, b4⟩
  have HB4 := Lib.hid (HB3.out.trans (b4.mono HB3.out.size))
  clear b4 HB3
  go_wp2_with fail
  refine (jump_v V rfl (by omega) (by omega) (v := (T : Int)) (by rw [JB.out])).mono ?_
  rintro e w5 ⟨rfl, b5⟩
  have HB5 := Lib.hid (HB4.out.trans (b5.mono HB4.out.size))
  clear b5 HB4
  go_wp2_with fail
  refine (next_v S rfl hS (v := (A : Int)) (by rw [HT.out, HA.out])).mono ?_
  rintro e w6 ⟨rfl, b6⟩
  have HB6 := Lib.hid (HB5.out.trans (b6.mono HB5.out.size))
  clear b6 HB5
  go_wp2_with fail
  refine (back_v A rfl (by omega) (v := (T : Int)) (by rw [BA.out])).mono ?_
  rintro e w7 ⟨rfl, b7⟩
  have HB7 := Lib.hid (HB6.out.trans (b7.mono HB6.out.size))
  clear b7 HB6
  go_wp2_with fail
  refine (back_v S rfl hS (v := (B : Int)) (by rw [HT.out, HB'.out])).mono ?_
  rintro e w8 ⟨rfl, b8⟩
  have HB8 := Lib.hid (HB7.out.trans (b8.mono HB7.out.size))
  clear b8 HB7
  go_wp2_with fail
  refine (next_v B rfl (by omega) (v := (T : Int)) (by rw [NB'.out])).mono ?_
  rintro e w9 ⟨rfl, b9⟩
  have HB9 := Lib.hid (HB8.out.trans (b9.mono HB8.out.size))
  clear b9 HB8
  go_wp2_with fail
  go_ret
  exact ⟨rfl, HB9.out⟩

theorem own : ownKnob Try.prog.godebug = none := by kernel_rfl
theorem laidOut : laidOutB Try.prog = true := by kernel_rfl
set_option maxRecDepth 100000 in
theorem lifted (os : Os) (started : os.Started) (H : Type) (enc : TypeId × Value → H) :
    ReturnsInHanded {} Try.checked os 3 .any (Rows.noiseStepsSpec.pre6 enc Try.prog Try.f3 Rows.noiseStepsRow.domain false) (Rows.noiseStepsSpec.post enc Try.prog Try.f3 false true false false) := by
  refine returnsInHanded_of_change (C := Try.checked) own started (by kernel_rfl) Try.func3
    (ChangeSpec.witness6 (enc := enc) (C := Try.checked) false ⟨#[], #[.int .u32 0, .int .u16 0], []⟩ 8 (by kernel_rfl) (by kernel_rfl) (by kernel_rfl) (by kernel_rfl)) ?_
  intro W base args ds gs before hval0 hW _ _
  have hval : ∀ (j : Nat) t v, Try.f3.params[j]? = some t → args[j]? = some v → Value.okWide Try.prog W .any base t v := hval0
  have hW' := hW
  obtain ⟨p, q, hA0, hV, rfl, _, _⟩ := hW
  have hA : DataW.TrodAll enc Try.prog W 0 (fun _ => true) true Try.f3.params.toList args.toList ds p := hA0
  rw [Try.params3] at hA hval
  obtain ⟨v0, vs0, d0, ds0, p0, q0, hargs, rfl, rfl, h0, r0⟩ := trodAll_cons hA
  obtain ⟨v1, vs1, d1, ds1, p1, q1, rfl, rfl, rfl, h1, r1⟩ := trodAll_cons r0
  obtain ⟨rfl, rfl, rfl⟩ := trodAll_nil r1
  obtain rfl : args = #[v0, v1] := by cases args; simp_all
  obtain ⟨rfl, rfl⟩ := trodVars_none hV
  obtain ⟨a0, rfl, rfl, rfl, w0⟩ := open_int Try.underlying22 (hval 0 22 v0 rfl rfl) h0
  obtain ⟨a1, rfl, rfl, rfl, w1⟩ := open_int Try.underlying23 (hval 1 23 v1 rfl rfl) h1
  clear hA0 hval0
  refine (walk a0 w0 a1 w1 W).mono fun e W' ⟨he, hg⟩ => ?_
  subst he
  exact ⟨_, rfl, law_post rfl Try.underlying4 laidOut (by kernel_rfl) rfl hW' rfl hg⟩

theorem over : Rows.noiseStepsRow.holds Try.pinned (OpenSpec.ofChange Rows.noiseStepsSpec) :=
  OpenClaim.holds_of_wide 3 Try.f3 rfl rfl rfl rfl rfl rfl rfl ⟨rfl, rfl, rfl, rfl, rfl⟩ rfl rfl rfl rfl rfl (by kernel_rfl) Try.func3 (by kernel_rfl)
    (of_decide_eq_true (by kernel_rfl)) (by unfold Func.isWrapper; first | (rw [if_pos (by decide +kernel)]; kernel_rfl) | (rw [if_neg (by decide +kernel)]; exact ⟨rfl, rfl⟩))
    (fun os started H enc _ => lifted os started H enc)

theorem proved : Rows.NoiseStepsSaid := over
#print axioms proved
end Go.Proofs.Ytcnjekballnncaa.noiseSteps
