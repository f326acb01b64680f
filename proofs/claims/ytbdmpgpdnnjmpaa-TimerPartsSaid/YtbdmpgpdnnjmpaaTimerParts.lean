/-
  For every input TimerParts returns true, and each argument reads behind the call as it read before. No conditions.
-/
import Derived.Test.YtbdmpgpdnnjmpaaRows
import Derived.Test.YtbdmpgpdnnjmpaaG3
import Derived.Test.YtbdmpgpdnnjmpaaTim6
namespace Go.Proofs.Ytbdmpgpdnnjmpaa.timerParts
open Go.ChangeShapes Go.WideShapes Go.ChangeAt Go.RowKit
open Go.ChangeMaps (open_string)

set_option linter.unusedVariables false
set_option linter.unusedSimpArgs false
set_option maxRecDepth 100000 in
set_option maxHeartbeats 8000000 in
theorem walk (re : Int) (wr : (Lit.int .u8 re).wf = true) (st : Int) (ws : (Lit.int .u8 st).wf = true) (a : Int) (wa : (Lit.int .u32 a).wf = true) (b : Int) (wb : (Lit.int .u32 b).wf = true) (W : World) :
    Calls Try.prog 4 #[.int .u8 re, .int .u8 st, .int .u32 a, .int .u32 b] W fun e w' => e = .returned (.bool true) ∧ Below W.heap.size W w' := by
  obtain ⟨r0, r1⟩ := bounds_u8 wr
  obtain ⟨s0, s1⟩ := bounds_u8 ws
  obtain ⟨a0, a1⟩ := bounds_u32 wa
  obtain ⟨b0, b1⟩ := bounds_u32 wb
  obtain ⟨a, rfl⟩ := Int.eq_ofNat_of_zero_le a0
  obtain ⟨b, rfl⟩ := Int.eq_ofNat_of_zero_le b0
  clear wr ws wa wb a0 b0
  obtain ⟨s, hs⟩ : ∃ s : Tm, s = ⟨0, (st % 128).toNat, (re % 128).toNat, true⟩ := ⟨_, rfl⟩
  have hk : s.ok := by subst hs; exact ⟨by dsimp only; omega, by dsimp only; omega, by dsimp only; omega⟩
  obtain ⟨ea, eb⟩ := Tm.go_add hk a b
  have l1 := Tm.over_le hk a
  have l2 := Tm.over_le (Tm.go_ok hk a) b
  generalize hu : s.goN a = u at *
  generalize hv : u.goN b = v at *
  generalize hx : s.overN a = x at *
  generalize hy : u.overN b = y at *
  have HS := Lib.hid hs
  have HK := Lib.hid hk
  have EA := Lib.hid ea
  have EB := Lib.hid eb
  have HU := Lib.hid hu
  have HV := Lib.hid hv
  have HX := Lib.hid hx
  have HY := Lib.hid hy
  clear hs hk ea eb hu hv hx hy
  go_enter Try.func4, Try.ntmps4
  go_wp2_with fail
  refine (liveT_any _).mono ?_
  rintro e w1 ⟨rfl, hB1⟩
  have HB1 := Lib.hid hB1
  clear hB1
  go_wp2_with fail
  refine (tnew_any _).mono ?_
  rintro e w2 ⟨rfl, t2, b2⟩
  have hg : W.heap.size ≤ w1.heap.size := HB1.out.size
  have T2 : Hid (T0 w2 w1.heap.size Tm.new) := Lib.hid t2
  have HB2 := Lib.hid (HB1.out.trans (b2.mono hg))
  clear t2 b2 HB1
  generalize w1.heap.size = g at *
  go_wp2_with fail
  refine (twrite_v T2.out s0 s1 (s' := ⟨0, 0, (st % 128).toNat, false⟩) (by rfl)).mono ?_
  rintro e w3 ⟨rfl, t3, k3⟩
  have T3 := Lib.hid t3
  have HB3 := Lib.hid (k3.onto HB2.out HB2.out.size (by simpa using hg))
  clear t3 k3 T2 HB2
  go_wp2_with fail
  refine (twrite_v T3.out (by omega) (by omega) (s' := ⟨0, (st % 128).toNat, (st % 128).toNat, true⟩) (by rfl)).mono ?_
  rintro e w4 ⟨rfl, t4, k4⟩
  have T4 := Lib.hid t4
  have HB4 := Lib.hid (k4.onto HB3.out HB3.out.size (by simpa using hg))
  clear t4 k4 T3 HB3
  go_wp2_with fail
  refine (twrite_v T4.out r0 r1 (s' := s) (by rw [HS.out]; rfl)).mono ?_
  rintro e w5 ⟨rfl, t5, k5⟩
  have T5 := Lib.hid t5
  have HB5 := Lib.hid (k5.onto HB4.out HB4.out.size (by simpa using hg))
  clear t5 k5 T4 HB4
  go_wp2_with fail
  refine (tclone_any T5.out).mono ?_
  rintro e w6 ⟨rfl, t6, b6⟩
  have hg5 : g < w5.heap.size := TM.lt T5.out
  have hW5 : W.heap.size ≤ w5.heap.size := HB5.out.size
  have T6 : Hid (T0 w6 g s) := Lib.hid (TM.keep T5.out b6 hg5)
  have U6 : Hid (T0 w6 w5.heap.size s) := Lib.hid t6
  have HB6 := Lib.hid (HB5.out.trans (b6.mono hW5))
  clear t6 b6 T5 HB5
  generalize w5.heap.size = q at *
  go_wp2_with fail
  refine (tgo_v T6.out (by omega) (s' := v) (x := ((x + y : Nat) : Int)) (by rw [show ((a : Int) + (b : Int)).toNat = a + b by omega]; exact EA.out) (by rw [show ((a : Int) + (b : Int)).toNat = a + b by omega]; rw [EB.out])).mono ?_
  rintro e w7 ⟨rfl, t7, k7⟩
  have T7 := Lib.hid t7
  have U7 : Hid (T0 w7 q s) := Lib.hid (TM.kp U6.out k7 (by simp; omega))
  have HB7 := Lib.hid (k7.onto HB6.out HB6.out.size (by simpa using hg))
  clear t7 k7 T6 U6 HB6
  go_wp2_with fail
  refine (tgo_v U7.out (n := (a : Int)) (by omega) (s' := u) (x := (x : Int)) HU.out (by rw [← HX.out]; rfl)).mono ?_
  rintro e w8 ⟨rfl, t8, k8⟩
  have U8 := Lib.hid t8
  have T8 : Hid (T0 w8 g v) := Lib.hid (TM.kp T7.out k8 (by simp; omega))
  have HB8 := Lib.hid (k8.onto HB7.out HB7.out.size (by simp; omega))
  clear t8 k8 T7 U7 HB7
  go_wp2_with fail
  refine (tgo_v U8.out (n := (b : Int)) (by omega) (s' := v) (x := (y : Int)) HV.out (by rw [← HY.out]; rfl)).mono ?_
  rintro e w9 ⟨rfl, t9, k9⟩
  have U9 := Lib.hid t9
  have T9 : Hid (T0 w9 g v) := Lib.hid (TM.kp T8.out k9 (by simp; omega))
  have HB9 := Lib.hid (k9.onto HB8.out HB8.out.size (by simp; omega))
  have t1 : (((x : Int) + (y : Int)) == (x : Int) + (y : Int)) = true := by simp
  clear t9 k9 T8 U8 HB8
  obtain ⟨gone, cc, rr, on⟩ := v
  have t2 : ((cc : Int) == cc) = true := by simp
  have t3 : ((3072 - (gone : Int)) == 3072 - (gone : Int)) = true := by simp
  go_wp2_with fail
  refine (tcounter_v T9.out (x := cc) rfl).mono ?_
  rintro e w' ⟨rfl, rfl⟩
  go_wp2_with fail
  refine (tcounter_v U9.out (x := cc) rfl).mono ?_
  rintro e w' ⟨rfl, rfl⟩
  go_wp2_with fail
  refine (tleft_v T9.out (x := 3072 - (gone : Int)) rfl).mono ?_
  rintro e w' ⟨rfl, rfl⟩
  go_wp2_with fail
  refine (tleft_v U9.out (x := 3072 - (gone : Int)) rfl).mono ?_
  rintro e w' ⟨rfl, rfl⟩
  go_wp2_with fail
  go_ret
  exact ⟨by simp, HB9.out⟩

theorem own : ownKnob Try.prog.godebug = none := by kernel_rfl
theorem laidOut : laidOutB Try.prog = true := by kernel_rfl
set_option maxRecDepth 100000 in
theorem lifted (os : Os) (started : os.Started) (H : Type) (enc : TypeId × Value → H) :
    ReturnsInHanded {} Try.checked os 4 .any (Rows.timerPartsSpec.pre6 enc Try.prog Try.f4 Rows.timerPartsRow.domain false) (Rows.timerPartsSpec.post enc Try.prog Try.f4 false true false false) := by
  refine returnsInHanded_of_change (C := Try.checked) own started (by kernel_rfl) Try.func4
    (ChangeSpec.witness6 (enc := enc) (C := Try.checked) false ⟨#[], #[.int .u8 0, .int .u8 0, .int .u32 0, .int .u32 0], []⟩ 8 (by kernel_rfl) (by kernel_rfl) (by kernel_rfl) (by kernel_rfl)) ?_
  intro W base args ds gs before hval0 hW _ _
  have hval : ∀ (j : Nat) t v, Try.f4.params[j]? = some t → args[j]? = some v → Value.okWide Try.prog W .any base t v := hval0
  have hW' := hW
  obtain ⟨p, q, hA0, hV, rfl, _, _⟩ := hW
  have hA : DataW.TrodAll enc Try.prog W 0 (fun _ => true) true Try.f4.params.toList args.toList ds p := hA0
  rw [Try.params4] at hA hval
  obtain ⟨v0, vs0, d0, ds0, p0, q0, hargs, rfl, rfl, h0, r0⟩ := trodAll_cons hA
  obtain ⟨v1, vs1, d1, ds1, p1, q1, rfl, rfl, rfl, h1, r1⟩ := trodAll_cons r0
  obtain ⟨v2, vs2, d2, ds2, p2, q2, rfl, rfl, rfl, h2, r2⟩ := trodAll_cons r1
  obtain ⟨v3, vs3, d3, ds3, p3, q3, rfl, rfl, rfl, h3, r3⟩ := trodAll_cons r2
  obtain ⟨rfl, rfl, rfl⟩ := trodAll_nil r3
  obtain rfl : args = #[v0, v1, v2, v3] := by cases args; simp_all
  obtain ⟨rfl, rfl⟩ := trodVars_none hV
  obtain ⟨a0, rfl, rfl, rfl, w0⟩ := open_int Try.underlying5 (hval 0 5 v0 rfl rfl) h0
  obtain ⟨a1, rfl, rfl, rfl, w1⟩ := open_int Try.underlying5 (hval 1 5 v1 rfl rfl) h1
  obtain ⟨a2, rfl, rfl, rfl, w2⟩ := open_int Try.underlying35 (hval 2 35 v2 rfl rfl) h2
  obtain ⟨a3, rfl, rfl, rfl, w3⟩ := open_int Try.underlying35 (hval 3 35 v3 rfl rfl) h3
  clear hA0 hval0
  refine (walk a0 w0 a1 w1 a2 w2 a3 w3 W).mono fun e W' ⟨he, hg⟩ => ?_
  subst he
  exact ⟨_, rfl, law_post rfl Try.underlying4 laidOut (by kernel_rfl) rfl hW' rfl hg⟩

theorem over : Rows.timerPartsRow.holds Try.pinned (OpenSpec.ofChange Rows.timerPartsSpec) :=
  OpenClaim.holds_of_wide 4 Try.f4 rfl rfl rfl rfl rfl rfl rfl ⟨rfl, rfl, rfl, rfl, rfl⟩ rfl rfl rfl rfl rfl (by kernel_rfl) Try.func4 (by kernel_rfl)
    (of_decide_eq_true (by kernel_rfl)) (by unfold Func.isWrapper; first | (rw [if_pos (by decide +kernel)]; kernel_rfl) | (rw [if_neg (by decide +kernel)]; exact ⟨rfl, rfl⟩))
    (fun os started H enc _ => lifted os started H enc)

theorem proved : Rows.TimerPartsSaid := over
#print axioms proved
end Go.Proofs.Ytbdmpgpdnnjmpaa.timerParts
