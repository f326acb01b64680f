/-
  For every input AdderDigits returns true, and each argument reads behind the call as it read before. No conditions.
-/
import Derived.Test.YtkmcfmflihkdjaaRows
import Derived.Test.YtkmcfmflihkdjaaG3
import Derived.Test.YtkmcfmflihkdjaaAdd6
namespace Go.Proofs.Ytkmcfmflihkdjaa.adderDigits
open Go.ChangeShapes Go.WideShapes Go.ChangeAt Go.RowKit
open Go.ChangeMaps (open_string)

set_option linter.unusedVariables false
set_option linter.unusedSimpArgs false
set_option maxRecDepth 100000 in
set_option maxHeartbeats 8000000 in
theorem walk (n : Int) (wn : (Lit.int .u64 n).wf = true) (k : Int) (wk : (Lit.int .i64 k).wf = true) (W : World) :
    Calls Try.prog 7 #[.int .u64 n, .int .i64 k] W fun e w' => e = .returned (.bool true) ∧ Below W.heap.size W w' := by
  obtain ⟨n0, n1⟩ := bounds_u64 wn
  obtain ⟨k0, k1⟩ := bounds_i64 wk
  obtain ⟨m, hm⟩ : ∃ m, dcn k = m := ⟨_, rfl⟩
  have hm10 : m ≤ 10 := by rw [← hm]; unfold dcn; split; omega; split <;> omega
  have A1 := fun w => digits_any' w n k n0 n1 k0 k1 m hm
  have A2 := fun w => rdigits_any w n k n0 n1 k0 k1 m hm
  have H1 := Lib.hid A1
  have H2 := Lib.hid A2
  clear A1 A2 hm wn wk
  go_enter Try.func7, Try.ntmps7
  go_wp2_with fail
  refine (live21 _).mono ?_
  rintro e w0 ⟨rfl, b0⟩
  have HB := Lib.hid b0
  clear b0
  go_wp2_with fail
  refine (H1.out _).mono ?_
  rintro e w1 ⟨g, rfl, h1, R1, b1⟩
  have HB1 := Lib.hid (HB.out.trans (b1.mono HB.out.size))
  have HR1 := Lib.hid R1
  clear b1 R1
  go_wp2_with fail
  refine (H2.out _).mono ?_
  rintro e w2 ⟨v, rfl, own, b2⟩
  obtain ⟨A, cap, rfl, _, _, R2, _, _, _⟩ := own_row own (fun i hi => by have := dg_bd n i; exact WalkArith.wf_u8 (by omega))
  have HB2 := Lib.hid (HB1.out.trans (b2.mono HB1.out.size))
  have HR := Lib.hid (HR1.out.keep b2)
  have HR2 := Lib.hid R2
  clear b2 own R2
  go_wp2_with fail
  refine (asame2 (by unfold maxLen; omega) HR.out HR2.out (fun _ _ => rfl)).mono ?_
  rintro e w3 ⟨rfl, b3⟩
  have HB3 := Lib.hid (HB2.out.trans (b3.mono HB2.out.size))
  clear b3
  go_wp2_with fail
  go_ret
  exact ⟨rfl, HB3.out⟩

theorem own : ownKnob Try.prog.godebug = none := by kernel_rfl
theorem laidOut : laidOutB Try.prog = true := by kernel_rfl
set_option maxRecDepth 100000 in
theorem lifted (os : Os) (started : os.Started) (H : Type) (enc : TypeId × Value → H) :
    ReturnsInHanded {} Try.checked os 7 .any (Rows.adderDigitsSpec.pre6 enc Try.prog Try.f7 Rows.adderDigitsRow.domain false) (Rows.adderDigitsSpec.post enc Try.prog Try.f7 false true false false) := by
  refine returnsInHanded_of_change (C := Try.checked) own started (by kernel_rfl) Try.func7
    (ChangeSpec.witness6 (enc := enc) (C := Try.checked) false ⟨#[], #[.int .u64 0, .int .i64 0], []⟩ 8 (by kernel_rfl) (by kernel_rfl) (by kernel_rfl) (by kernel_rfl)) ?_
  intro W base args ds gs before hval0 hW _ _
  have hval : ∀ (j : Nat) t v, Try.f7.params[j]? = some t → args[j]? = some v → Value.okWide Try.prog W .any base t v := hval0
  have hW' := hW
  obtain ⟨p, q, hA0, hV, rfl, _, _⟩ := hW
  have hA : DataW.TrodAll enc Try.prog W 0 (fun _ => true) true Try.f7.params.toList args.toList ds p := hA0
  rw [Try.params7] at hA hval
  obtain ⟨v0, vs0, d0, ds0, p0, q0, hargs, rfl, rfl, h0, r0⟩ := trodAll_cons hA
  obtain ⟨v1, vs1, d1, ds1, p1, q1, rfl, rfl, rfl, h1, r1⟩ := trodAll_cons r0
  obtain ⟨rfl, rfl, rfl⟩ := trodAll_nil r1
  obtain rfl : args = #[v0, v1] := by cases args; simp_all
  obtain ⟨rfl, rfl⟩ := trodVars_none hV
  obtain ⟨a0, rfl, rfl, rfl, w0⟩ := open_int Try.underlying34 (hval 0 34 v0 rfl rfl) h0
  obtain ⟨a1, rfl, rfl, rfl, w1⟩ := open_int Try.underlying3 (hval 1 3 v1 rfl rfl) h1
  clear hA0 hval0
  refine (walk a0 w0 a1 w1 W).mono fun e W' ⟨he, hg⟩ => ?_
  subst he
  exact ⟨_, rfl, law_post rfl Try.underlying4 laidOut (by kernel_rfl) rfl hW' rfl hg⟩

theorem over : Rows.adderDigitsRow.holds Try.pinned (OpenSpec.ofChange Rows.adderDigitsSpec) :=
  OpenClaim.holds_of_wide 7 Try.f7 rfl rfl rfl rfl rfl rfl rfl ⟨rfl, rfl, rfl, rfl, rfl⟩ rfl rfl rfl rfl rfl (by kernel_rfl) Try.func7 (by kernel_rfl)
    (of_decide_eq_true (by kernel_rfl)) (by unfold Func.isWrapper; first | (rw [if_pos (by decide +kernel)]; kernel_rfl) | (rw [if_neg (by decide +kernel)]; exact ⟨rfl, rfl⟩))
    (fun os started H enc _ => lifted os started H enc)

theorem proved : Rows.AdderDigitsSaid := over
#print axioms proved
end Go.Proofs.Ytkmcfmflihkdjaa.adderDigits
