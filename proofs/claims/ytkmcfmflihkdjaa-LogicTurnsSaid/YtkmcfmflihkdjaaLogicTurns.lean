/-
  For every input LogicTurns returns true, and each argument reads behind the call as it read before. No conditions.
-/
import Derived.Test.YtkmcfmflihkdjaaRows
import Derived.Test.YtkmcfmflihkdjaaG3
import Derived.Test.YtkmcfmflihkdjaaLgc5
namespace Go.Proofs.Ytkmcfmflihkdjaa.logicTurns
open Go.ChangeShapes Go.WideShapes Go.ChangeAt Go.RowKit
open Go.ChangeMaps (open_string)

set_option linter.unusedVariables false
set_option linter.unusedSimpArgs false
set_option maxRecDepth 100000 in
set_option maxHeartbeats 8000000 in
theorem walk (v : Int) (wv : (Lit.int .u8 v).wf = true) (p : Int) (wp : (Lit.int .u8 p).wf = true) (W : World) :
    Calls Try.prog 9 #[.int .u8 v, .int .u8 p] W fun e w' => e = .returned (.bool true) ∧ Below W.heap.size W w' := by
  obtain ⟨v0, v1⟩ := bounds_u8 wv
  obtain ⟨p0, p1⟩ := bounds_u8 wp
  have A0 := fun w => lasl_any v p w
  have R0 := fun w => rturn_asl v p w v0 v1 p0 p1
  have A1 := fun w => llsr_any v p w
  have R1 := fun w => rturn_lsr v p w v0 v1 p0 p1
  have A2 := fun w => lrol_any v p w
  have R2 := fun w => rturn_rol v p w v0 v1 p0 p1
  have A3 := fun w => lror_any v p w
  have R3 := fun w => rturn_ror v p w v0 v1 p0 p1
  have A4 := fun w => linc_any v p w
  have R4 := fun w => rturn_inc v p w v0 v1 p0 p1
  have A5 := fun w => ldec_any v p w
  have R5 := fun w => rturn_dec v p w v0 v1 p0 p1
  generalize slV v false = x0 at *
  generalize srV v false = x1 at *
  generalize slV v (flI p 1) = x2 at *
  generalize srV v (flI p 1) = x3 at *
  generalize (v + 1) % 256 = x4 at *
  generalize (v - 1) % 256 = x5 at *
  generalize lgR (flS p 1 (bitB v 7)) x0 = y0 at *
  generalize lgR (flS p 1 (bitB v 0)) x1 = y1 at *
  generalize lgR (flS p 1 (bitB v 7)) x2 = y2 at *
  generalize lgR (flS p 1 (bitB v 0)) x3 = y3 at *
  generalize lgR p x4 = y4 at *
  generalize lgR p x5 = y5 at *
  have H0 := Lib.hid A0
  have K0 := Lib.hid R0
  have n0 : (x0 != x0) = false := by simp
  have m0 : (y0 != y0) = false := by simp
  have H1 := Lib.hid A1
  have K1 := Lib.hid R1
  have n1 : (x1 != x1) = false := by simp
  have m1 : (y1 != y1) = false := by simp
  have H2 := Lib.hid A2
  have K2 := Lib.hid R2
  have n2 : (x2 != x2) = false := by simp
  have m2 : (y2 != y2) = false := by simp
  have H3 := Lib.hid A3
  have K3 := Lib.hid R3
  have n3 : (x3 != x3) = false := by simp
  have m3 : (y3 != y3) = false := by simp
  have H4 := Lib.hid A4
  have K4 := Lib.hid R4
  have n4 : (x4 != x4) = false := by simp
  have m4 : (y4 != y4) = false := by simp
  have H5 := Lib.hid A5
  have K5 := Lib.hid R5
  have n5 : (x5 != x5) = false := by simp
  have m5 : (y5 != y5) = false := by simp
  clear A0 R0 A1 R1 A2 R2 A3 R3 A4 R4 A5 R5 wv wp
  go_enter Try.func9, Try.ntmps9
  go_wp2_with fail
  refine (live22 _).mono ?_
  rintro e w0 ⟨rfl, b0⟩
  have HB := Lib.hid b0
  clear b0
  go_wp2_with fail
  refine wp_loop_rounds 7 ?_
  rw [rounds_succ]
  go_wp2_with fail
  refine (H0.out _).mono ?_
  rintro e wa0 ⟨rfl, b⟩
  replace HB := Lib.hid (HB.out.trans (b.mono HB.out.size))
  clear b
  go_wp2_with fail
  refine (K0.out _).mono ?_
  rintro e wb0 ⟨rfl, b⟩
  replace HB := Lib.hid (HB.out.trans (b.mono HB.out.size))
  clear b
  go_wp2_with fail
  rw [rounds_succ]
  go_wp2_with fail
  refine (H1.out _).mono ?_
  rintro e wa1 ⟨rfl, b⟩
  replace HB := Lib.hid (HB.out.trans (b.mono HB.out.size))
  clear b
  go_wp2_with fail
  refine (K1.out _).mono ?_
  rintro e wb1 ⟨rfl, b⟩
  replace HB := Lib.hid (HB.out.trans (b.mono HB.out.size))
  clear b
  go_wp2_with fail
  rw [rounds_succ]
  go_wp2_with fail
  refine (H2.out _).mono ?_
  rintro e wa2 ⟨rfl, b⟩
  replace HB := Lib.hid (HB.out.trans (b.mono HB.out.size))
  clear b
  go_wp2_with fail
  refine (K2.out _).mono ?_
  rintro e wb2 ⟨rfl, b⟩
  replace HB := Lib.hid (HB.out.trans (b.mono HB.out.size))
  clear b
  go_wp2_with fail
  rw [rounds_succ]
  go_wp2_with fail
  refine (H3.out _).mono ?_
  rintro e wa3 ⟨rfl, b⟩
  replace HB := Lib.hid (HB.out.trans (b.mono HB.out.size))
  clear b
  go_wp2_with fail
  refine (K3.out _).mono ?_
  rintro e wb3 ⟨rfl, b⟩
  replace HB := Lib.hid (HB.out.trans (b.mono HB.out.size))
  clear b
  go_wp2_with fail
  rw [rounds_succ]
  go_wp2_with fail
  refine (H4.out _).mono ?_
  rintro e w' ⟨rfl, rfl⟩
  go_wp2_with fail
  refine (K4.out _).mono ?_
  rintro e wb4 ⟨rfl, b⟩
  replace HB := Lib.hid (HB.out.trans (b.mono HB.out.size))
  clear b
  go_wp2_with fail
  rw [rounds_succ]
  go_wp2_with fail
  refine (H5.out _).mono ?_
  rintro e w' ⟨rfl, rfl⟩
  go_wp2_with fail
  refine (K5.out _).mono ?_
  rintro e wb5 ⟨rfl, b⟩
  replace HB := Lib.hid (HB.out.trans (b.mono HB.out.size))
  clear b
  go_wp2_with fail
  rw [rounds_succ]
  go_wp2_with fail
  go_ret
  exact ⟨rfl, HB.out⟩

theorem own : ownKnob Try.prog.godebug = none := by kernel_rfl
theorem laidOut : laidOutB Try.prog = true := by kernel_rfl
set_option maxRecDepth 100000 in
theorem lifted (os : Os) (started : os.Started) (H : Type) (enc : TypeId × Value → H) :
    ReturnsInHanded {} Try.checked os 9 .any (Rows.logicTurnsSpec.pre6 enc Try.prog Try.f9 Rows.logicTurnsRow.domain false) (Rows.logicTurnsSpec.post enc Try.prog Try.f9 false true false false) := by
  refine returnsInHanded_of_change (C := Try.checked) own started (by kernel_rfl) Try.func9
    (ChangeSpec.witness6 (enc := enc) (C := Try.checked) false ⟨#[], #[.int .u8 0, .int .u8 0], []⟩ 8 (by kernel_rfl) (by kernel_rfl) (by kernel_rfl) (by kernel_rfl)) ?_
  intro W base args ds gs before hval0 hW _ _
  have hval : ∀ (j : Nat) t v, Try.f9.params[j]? = some t → args[j]? = some v → Value.okWide Try.prog W .any base t v := hval0
  have hW' := hW
  obtain ⟨p, q, hA0, hV, rfl, _, _⟩ := hW
  have hA : DataW.TrodAll enc Try.prog W 0 (fun _ => true) true Try.f9.params.toList args.toList ds p := hA0
  rw [Try.params9] at hA hval
  obtain ⟨v0, vs0, d0, ds0, p0, q0, hargs, rfl, rfl, h0, r0⟩ := trodAll_cons hA
  obtain ⟨v1, vs1, d1, ds1, p1, q1, rfl, rfl, rfl, h1, r1⟩ := trodAll_cons r0
  obtain ⟨rfl, rfl, rfl⟩ := trodAll_nil r1
  obtain rfl : args = #[v0, v1] := by cases args; simp_all
  obtain ⟨rfl, rfl⟩ := trodVars_none hV
  obtain ⟨a0, rfl, rfl, rfl, w0⟩ := open_int Try.underlying5 (hval 0 5 v0 rfl rfl) h0
  obtain ⟨a1, rfl, rfl, rfl, w1⟩ := open_int Try.underlying5 (hval 1 5 v1 rfl rfl) h1
  clear hA0 hval0
  refine (walk a0 w0 a1 w1 W).mono fun e W' ⟨he, hg⟩ => ?_
  subst he
  exact ⟨_, rfl, law_post rfl Try.underlying4 laidOut (by kernel_rfl) rfl hW' rfl hg⟩

theorem over : Rows.logicTurnsRow.holds Try.pinned (OpenSpec.ofChange Rows.logicTurnsSpec) :=
  OpenClaim.holds_of_wide 9 Try.f9 rfl rfl rfl rfl rfl rfl rfl ⟨rfl, rfl, rfl, rfl, rfl⟩ rfl rfl rfl rfl rfl (by kernel_rfl) Try.func9 (by kernel_rfl)
    (of_decide_eq_true (by kernel_rfl)) (by unfold Func.isWrapper; first | (rw [if_pos (by decide +kernel)]; kernel_rfl) | (rw [if_neg (by decide +kernel)]; exact ⟨rfl, rfl⟩))
    (fun os started H enc _ => lifted os started H enc)

theorem proved : Rows.LogicTurnsSaid := over
#print axioms proved
end Go.Proofs.Ytkmcfmflihkdjaa.logicTurns
