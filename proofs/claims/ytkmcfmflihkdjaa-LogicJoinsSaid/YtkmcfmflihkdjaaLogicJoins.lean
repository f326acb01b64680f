/-
  For every input LogicJoins returns true, and each argument reads behind the call as it read before. No conditions.
-/
import Derived.Test.YtkmcfmflihkdjaaRows
import Derived.Test.YtkmcfmflihkdjaaG3
import Derived.Test.YtkmcfmflihkdjaaLgc5
namespace Go.Proofs.Ytkmcfmflihkdjaa.logicJoins
open Go.ChangeShapes Go.WideShapes Go.ChangeAt Go.RowKit
open Go.ChangeMaps (open_string)

set_option linter.unusedVariables false
set_option linter.unusedSimpArgs false
set_option maxRecDepth 100000 in
set_option maxHeartbeats 8000000 in
theorem walk (a : Int) (wa : (Lit.int .u8 a).wf = true) (b : Int) (wb : (Lit.int .u8 b).wf = true) (p : Int) (wp : (Lit.int .u8 p).wf = true) (W : World) :
    Calls Try.prog 8 #[.int .u8 a, .int .u8 b, .int .u8 p] W fun e w' => e = .returned (.bool true) ∧ Below W.heap.size W w' := by
  obtain ⟨a0, a1⟩ := bounds_u8 wa
  obtain ⟨b0, b1⟩ := bounds_u8 wb
  obtain ⟨p0, p1⟩ := bounds_u8 wp
  have A1 := fun w => land_any a b p w
  have A2 := fun w => lor_any a b p w
  have A3 := fun w => leor_any a b p w
  have A4 := fun w => ltsb_any a b p w
  have A5 := fun w => ltrb_any a b p w
  have A6 := fun w => ltest_any a b p w
  have R1 := fun w => rtest_any a b p w a0 a1 b0 b1 p0 p1
  have R2 := fun w => rand_any a b w a0 a1 b0 b1
  have R3 := fun w => ror_any' a b w a0 a1 b0 b1
  have R4 := fun w => reor_any a b w a0 a1 b0 b1
  have R5 := fun w => rlay_any a b true w a0 a1 b0 b1
  have R6 := fun w => rlay_any a b false w a0 a1 b0 b1
  rw [show flS b a true = bits .or .u8 b a from rfl] at R5
  rw [show flS b a false = bits .andNot .u8 b a from rfl] at R6
  have Q1 := fun w => rres_any p w p0 p1 (bits .and .u8 a b) (bits_lo_u8 _ _ _) (bits_hi_u8 _ _ _)
  have Q2 := fun w => rres_any p w p0 p1 (bits .or .u8 a b) (bits_lo_u8 _ _ _) (bits_hi_u8 _ _ _)
  have Q3 := fun w => rres_any p w p0 p1 (bits .xor .u8 a b) (bits_lo_u8 _ _ _) (bits_hi_u8 _ _ _)
  rw [show flR p (bits .and .u8 a b) = lgR p (bits .and .u8 a b) from rfl] at Q1
  rw [show flR p (bits .or .u8 a b) = lgR p (bits .or .u8 a b) from rfl] at Q2
  rw [show flR p (bits .xor .u8 a b) = lgR p (bits .xor .u8 a b) from rfl] at Q3
  generalize lgR p (bits .and .u8 a b) = y1 at *
  generalize lgR p (bits .or .u8 a b) = y2 at *
  generalize lgR p (bits .xor .u8 a b) = y3 at *
  generalize bits .and .u8 a b = x1 at *
  generalize bits .or .u8 a b = x2 at *
  generalize bits .xor .u8 a b = x3 at *
  generalize bits .or .u8 b a = x4 at *
  generalize bits .andNot .u8 b a = x5 at *
  generalize ltS a b p = x6 at *
  have H1 := Lib.hid A1
  have H2 := Lib.hid A2
  have H3 := Lib.hid A3
  have H4 := Lib.hid A4
  have H5 := Lib.hid A5
  have H6 := Lib.hid A6
  have K1 := Lib.hid R1
  have K2 := Lib.hid R2
  have K3 := Lib.hid R3
  have K4 := Lib.hid R4
  have K5 := Lib.hid R5
  have K6 := Lib.hid R6
  have J1 := Lib.hid Q1
  have J2 := Lib.hid Q2
  have J3 := Lib.hid Q3
  have n1 : (x1 != x1) = false := by simp
  have n2 : (x2 != x2) = false := by simp
  have n3 : (x3 != x3) = false := by simp
  have n4 : (x4 != x4) = false := by simp
  have n5 : (x5 != x5) = false := by simp
  clear A1 A2 A3 A4 A5 A6 R1 R2 R3 R4 R5 R6 Q1 Q2 Q3 wa wb wp
  go_enter Try.func8, Try.ntmps8
  go_wp2_with fail
  refine (live22 _).mono ?_
  rintro e w0 ⟨rfl, b0⟩
  have HB := Lib.hid b0
  clear b0
  go_wp2_with fail
  refine (H1.out _).mono ?_
  rintro e w' ⟨rfl, rfl⟩
  go_wp2_with fail
  refine (H2.out _).mono ?_
  rintro e w' ⟨rfl, rfl⟩
  go_wp2_with fail
  refine (H3.out _).mono ?_
  rintro e w' ⟨rfl, rfl⟩
  go_wp2_with fail
  refine (H4.out _).mono ?_
  rintro e w' ⟨rfl, rfl⟩
  go_wp2_with fail
  refine (H5.out _).mono ?_
  rintro e w' ⟨rfl, rfl⟩
  go_wp2_with fail
  refine (K1.out _).mono ?_
  rintro e w1 ⟨rfl, b⟩
  replace HB := Lib.hid (HB.out.trans (b.mono HB.out.size))
  clear b
  go_wp2_with fail
  refine (K2.out _).mono ?_
  rintro e w2 ⟨rfl, b⟩
  replace HB := Lib.hid (HB.out.trans (b.mono HB.out.size))
  clear b
  go_wp2_with fail
  refine (K3.out _).mono ?_
  rintro e w3 ⟨rfl, b⟩
  replace HB := Lib.hid (HB.out.trans (b.mono HB.out.size))
  clear b
  go_wp2_with fail
  refine (K4.out _).mono ?_
  rintro e w4 ⟨rfl, b⟩
  replace HB := Lib.hid (HB.out.trans (b.mono HB.out.size))
  clear b
  go_wp2_with fail
  refine (K5.out _).mono ?_
  rintro e w5 ⟨rfl, b⟩
  replace HB := Lib.hid (HB.out.trans (b.mono HB.out.size))
  clear b
  go_wp2_with fail
  refine (K6.out _).mono ?_
  rintro e w6 ⟨rfl, b⟩
  replace HB := Lib.hid (HB.out.trans (b.mono HB.out.size))
  clear b
  go_wp2_with fail
  refine (J1.out _).mono ?_
  rintro e w7 ⟨rfl, b⟩
  replace HB := Lib.hid (HB.out.trans (b.mono HB.out.size))
  clear b
  go_wp2_with fail
  refine (J2.out _).mono ?_
  rintro e w8 ⟨rfl, b⟩
  replace HB := Lib.hid (HB.out.trans (b.mono HB.out.size))
  clear b
  go_wp2_with fail
  refine (J3.out _).mono ?_
  rintro e w9 ⟨rfl, b⟩
  replace HB := Lib.hid (HB.out.trans (b.mono HB.out.size))
  clear b
  go_wp2_with fail
  refine (H6.out _).mono ?_
  rintro e w' ⟨rfl, rfl⟩
  go_wp2_with fail
  go_ret
  exact ⟨rfl, HB.out⟩

theorem own : ownKnob Try.prog.godebug = none := by kernel_rfl
theorem laidOut : laidOutB Try.prog = true := by kernel_rfl
set_option maxRecDepth 100000 in
theorem lifted (os : Os) (started : os.Started) (H : Type) (enc : TypeId × Value → H) :
    ReturnsInHanded {} Try.checked os 8 .any (Rows.logicJoinsSpec.pre6 enc Try.prog Try.f8 Rows.logicJoinsRow.domain false) (Rows.logicJoinsSpec.post enc Try.prog Try.f8 false true false false) := by
  refine returnsInHanded_of_change (C := Try.checked) own started (by kernel_rfl) Try.func8
    (ChangeSpec.witness6 (enc := enc) (C := Try.checked) false ⟨#[], #[.int .u8 0, .int .u8 0, .int .u8 0], []⟩ 8 (by kernel_rfl) (by kernel_rfl) (by kernel_rfl) (by kernel_rfl)) ?_
  intro W base args ds gs before hval0 hW _ _
  have hval : ∀ (j : Nat) t v, Try.f8.params[j]? = some t → args[j]? = some v → Value.okWide Try.prog W .any base t v := hval0
  have hW' := hW
  obtain ⟨p, q, hA0, hV, rfl, _, _⟩ := hW
  have hA : DataW.TrodAll enc Try.prog W 0 (fun _ => true) true Try.f8.params.toList args.toList ds p := hA0
  rw [Try.params8] at hA hval
  obtain ⟨v0, vs0, d0, ds0, p0, q0, hargs, rfl, rfl, h0, r0⟩ := trodAll_cons hA
  obtain ⟨v1, vs1, d1, ds1, p1, q1, rfl, rfl, rfl, h1, r1⟩ := trodAll_cons r0
  obtain ⟨v2, vs2, d2, ds2, p2, q2, rfl, rfl, rfl, h2, r2⟩ := trodAll_cons r1
  obtain ⟨rfl, rfl, rfl⟩ := trodAll_nil r2
  obtain rfl : args = #[v0, v1, v2] := by cases args; simp_all
  obtain ⟨rfl, rfl⟩ := trodVars_none hV
  obtain ⟨a0, rfl, rfl, rfl, w0⟩ := open_int Try.underlying5 (hval 0 5 v0 rfl rfl) h0
  obtain ⟨a1, rfl, rfl, rfl, w1⟩ := open_int Try.underlying5 (hval 1 5 v1 rfl rfl) h1
  obtain ⟨a2, rfl, rfl, rfl, w2⟩ := open_int Try.underlying5 (hval 2 5 v2 rfl rfl) h2
  clear hA0 hval0
  refine (walk a0 w0 a1 w1 a2 w2 W).mono fun e W' ⟨he, hg⟩ => ?_
  subst he
  exact ⟨_, rfl, law_post rfl Try.underlying4 laidOut (by kernel_rfl) rfl hW' rfl hg⟩

theorem over : Rows.logicJoinsRow.holds Try.pinned (OpenSpec.ofChange Rows.logicJoinsSpec) :=
  OpenClaim.holds_of_wide 8 Try.f8 rfl rfl rfl rfl rfl rfl rfl ⟨rfl, rfl, rfl, rfl, rfl⟩ rfl rfl rfl rfl rfl (by kernel_rfl) Try.func8 (by kernel_rfl)
    (of_decide_eq_true (by kernel_rfl)) (by unfold Func.isWrapper; first | (rw [if_pos (by decide +kernel)]; kernel_rfl) | (rw [if_neg (by decide +kernel)]; exact ⟨rfl, rfl⟩))
    (fun os started H enc _ => lifted os started H enc)

theorem proved : Rows.LogicJoinsSaid := over
#print axioms proved
end Go.Proofs.Ytkmcfmflihkdjaa.logicJoins
