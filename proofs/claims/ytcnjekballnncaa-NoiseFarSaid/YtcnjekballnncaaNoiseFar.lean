/-
  For every input NoiseFar returns true, and each argument reads behind the call as it read before. No conditions.
-/
import Derived.Test.YtcnjekballnncaaRows
import Derived.Test.YtcnjekballnncaaG3
import Derived.Test.YtcnjekballnncaaNoi9
namespace Go.Proofs.Ytcnjekballnncaa.noiseFar
open Go.ChangeShapes Go.WideShapes Go.ChangeAt Go.RowKit
open Go.ChangeMaps (open_string)

set_option linter.unusedVariables false
set_option linter.unusedSimpArgs false
set_option maxRecDepth 100000 in
set_option maxHeartbeats 8000000 in
theorem walk (fr : Int) (wf : (Lit.int .u8 fr).wf = true) (a : Int) (wa : (Lit.int .u32 a).wf = true) (b : Int) (wb : (Lit.int .u32 b).wf = true) (W : World) :
    Calls Try.prog 7 #[.int .u8 fr, .int .u32 a, .int .u32 b] W fun e w' => e = .returned (.bool true) ∧ Below W.heap.size W w' := by
  obtain ⟨r0, r1⟩ := bounds_u8 wf
  obtain ⟨a0, a1⟩ := bounds_u32 wa
  obtain ⟨b0, b1⟩ := bounds_u32 wb
  obtain ⟨a, rfl⟩ := Int.eq_ofNat_of_zero_le a0
  obtain ⟨b, rfl⟩ := Int.eq_ofNat_of_zero_le b0
  clear wf wa wb a0 b0
  obtain ⟨x, hx⟩ : ∃ x, Nz.new fr = x := ⟨_, rfl⟩
  have ok : x.ok := hx ▸ Nz.new_ok r0 r1
  obtain ⟨u, hu⟩ : ∃ u, x.go a = u := ⟨_, rfl⟩
  obtain ⟨v, hv⟩ : ∃ v, u.go b = v := ⟨_, rfl⟩
  have hab : x.go (a + b) = v := by rw [Nz.go_add ok, hu, hv]
  have HX := Lib.hid hx
  have HU := Lib.hid hu
  have HV := Lib.hid hv
  have HAB := Lib.hid hab
  clear hx hu hv hab ok
  go_enter Try.func7, Try.ntmps7
  go_wp2_with fail
  refine (liveN_any _).mono ?_
  rintro e w0 ⟨rfl, b0⟩
  have HB0 := Lib.hid b0
  clear b0
  go_wp2_with fail
  refine (nnew_any fr _ r0 r1).mono ?_
  rw [HX.out]
  rintro e w2 ⟨rfl, t2, b2⟩
  have hg : W.heap.size ≤ w0.heap.size := HB0.out.size
  have T2 : Hid (N0 w2 w0.heap.size x) := Lib.hid t2
  have HB2 := Lib.hid (HB0.out.trans (b2.mono hg))
  clear t2 b2 HB0
  generalize w0.heap.size = g at *
  go_wp2_with fail
  refine (nclone_any T2.out).mono ?_
  rintro e w3 ⟨rfl, t3, b3⟩
  have hg2 : g < w2.heap.size := NZ.lt T2.out
  have hW2 : W.heap.size ≤ w2.heap.size := HB2.out.size
  have T3 : Hid (N0 w3 g x) := Lib.hid (NZ.keep T2.out b3 hg2)
  have U3 : Hid (N0 w3 w2.heap.size x) := Lib.hid t3
  have HB3 := Lib.hid (HB2.out.trans (b3.mono hW2))
  clear t3 b3 T2 HB2
  generalize w2.heap.size = q at *
  go_wp2_with fail
  refine (ngo_v T3.out (a + b) (by simp) (by omega) HAB.out).mono ?_
  rintro e w4 ⟨rfl, t4, k4⟩
  have T4 : Hid (N0 w4 g v) := Lib.hid t4
  have U4 : Hid (N0 w4 q x) := Lib.hid (NZ.kp U3.out k4 (by simp; omega))
  have HB4 := Lib.hid (k4.onto HB3.out HB3.out.size (by simpa using hg))
  clear t4 k4 T3 U3 HB3
  go_wp2_with fail
  refine (ngo_v U4.out a rfl (by omega) HU.out).mono ?_
  rintro e w5 ⟨rfl, u5, k5⟩
  have U5 : Hid (N0 w5 q u) := Lib.hid u5
  have T5 : Hid (N0 w5 g v) := Lib.hid (NZ.kp T4.out k5 (by simp; omega))
  have HB5 := Lib.hid (k5.onto HB4.out HB4.out.size (by simp; omega))
  clear u5 k5 T4 U4 HB4
  go_wp2_with fail
  refine (ngo_v U5.out b rfl (by omega) HV.out).mono ?_
  rintro e w6 ⟨rfl, u6, k6⟩
  have U6 : Hid (N0 w6 q v) := Lib.hid u6
  have T6 : Hid (N0 w6 g v) := Lib.hid (NZ.kp T5.out k6 (by simp; omega))
  have HB6 := Lib.hid (k6.onto HB5.out HB5.out.size (by simp; omega))
  have j1 : ((v.st : Int) == v.st) = true := by simp
  have j2 : ((v.left : Int) == v.left) = true := by simp
  clear u6 k6 T5 U5 HB5
  go_wp2_with fail
  refine (nstate_any T6.out).mono ?_
  rintro e w' ⟨rfl, rfl⟩
  go_wp2_with fail
  refine (nstate_any U6.out).mono ?_
  rintro e w' ⟨rfl, rfl⟩
  go_wp2_with fail
  refine (nleft_any T6.out).mono ?_
  rintro e w' ⟨rfl, rfl⟩
  go_wp2_with fail
  refine (nleft_any U6.out).mono ?_
  rintro e w' ⟨rfl, rfl⟩
  go_wp2_with fail
  go_ret
  exact ⟨rfl, HB6.out⟩

theorem own : ownKnob Try.prog.godebug = none := by kernel_rfl
theorem laidOut : laidOutB Try.prog = true := by kernel_rfl
set_option maxRecDepth 100000 in
theorem lifted (os : Os) (started : os.Started) (H : Type) (enc : TypeId × Value → H) :
    ReturnsInHanded {} Try.checked os 7 .any (Rows.noiseFarSpec.pre6 enc Try.prog Try.f7 Rows.noiseFarRow.domain false) (Rows.noiseFarSpec.post enc Try.prog Try.f7 false true false false) := by
  refine returnsInHanded_of_change (C := Try.checked) own started (by kernel_rfl) Try.func7
    (ChangeSpec.witness6 (enc := enc) (C := Try.checked) false ⟨#[], #[.int .u8 0, .int .u32 0, .int .u32 0], []⟩ 8 (by kernel_rfl) (by kernel_rfl) (by kernel_rfl) (by kernel_rfl)) ?_
  intro W base args ds gs before hval0 hW _ _
  have hval : ∀ (j : Nat) t v, Try.f7.params[j]? = some t → args[j]? = some v → Value.okWide Try.prog W .any base t v := hval0
  have hW' := hW
  obtain ⟨p, q, hA0, hV, rfl, _, _⟩ := hW
  have hA : DataW.TrodAll enc Try.prog W 0 (fun _ => true) true Try.f7.params.toList args.toList ds p := hA0
  rw [Try.params7] at hA hval
  obtain ⟨v0, vs0, d0, ds0, p0, q0, hargs, rfl, rfl, h0, r0⟩ := trodAll_cons hA
  obtain ⟨v1, vs1, d1, ds1, p1, q1, rfl, rfl, rfl, h1, r1⟩ := trodAll_cons r0
  obtain ⟨v2, vs2, d2, ds2, p2, q2, rfl, rfl, rfl, h2, r2⟩ := trodAll_cons r1
  obtain ⟨rfl, rfl, rfl⟩ := trodAll_nil r2
  obtain rfl : args = #[v0, v1, v2] := by cases args; simp_all
  obtain ⟨rfl, rfl⟩ := trodVars_none hV
  obtain ⟨a0, rfl, rfl, rfl, w0⟩ := open_int Try.underlying5 (hval 0 5 v0 rfl rfl) h0
  obtain ⟨a1, rfl, rfl, rfl, w1⟩ := open_int Try.underlying22 (hval 1 22 v1 rfl rfl) h1
  obtain ⟨a2, rfl, rfl, rfl, w2⟩ := open_int Try.underlying22 (hval 2 22 v2 rfl rfl) h2
  clear hA0 hval0
  refine (walk a0 w0 a1 w1 a2 w2 W).mono fun e W' ⟨he, hg⟩ => ?_
  subst he
  exact ⟨_, rfl, law_post rfl Try.underlying4 laidOut (by kernel_rfl) rfl hW' rfl hg⟩

theorem over : Rows.noiseFarRow.holds Try.pinned (OpenSpec.ofChange Rows.noiseFarSpec) :=
  OpenClaim.holds_of_wide 7 Try.f7 rfl rfl rfl rfl rfl rfl rfl ⟨rfl, rfl, rfl, rfl, rfl⟩ rfl rfl rfl rfl rfl (by kernel_rfl) Try.func7 (by kernel_rfl)
    (of_decide_eq_true (by kernel_rfl)) (by unfold Func.isWrapper; first | (rw [if_pos (by decide +kernel)]; kernel_rfl) | (rw [if_neg (by decide +kernel)]; exact ⟨rfl, rfl⟩))
    (fun os started H enc _ => lifted os started H enc)

theorem proved : Rows.NoiseFarSaid := over
#print axioms proved
end Go.Proofs.Ytcnjekballnncaa.noiseFar
