/-
  For every input AdderDecimal returns true, and each argument reads behind the call as it read before. No conditions.
-/
import Derived.Test.YtkmcfmflihkdjaaRows
import Derived.Test.YtkmcfmflihkdjaaG3
import Derived.Test.YtkmcfmflihkdjaaAdd6
import Derived.Test.YtkmcfmflihkdjaaAdd7
namespace Go.Proofs.Ytkmcfmflihkdjaa.adderDecimal
open Go.ChangeShapes Go.WideShapes Go.ChangeAt Go.RowKit
open Go.ChangeMaps (open_string)

set_option linter.unusedVariables false
set_option linter.unusedSimpArgs false
set_option maxRecDepth 100000 in
set_option maxHeartbeats 8000000 in
theorem walk (m : Int) (wm : (Lit.int .u32 m).wf = true) (n : Int) (wn : (Lit.int .u32 n).wf = true) (inn : Bool) (W : World) :
    Calls Try.prog 5 #[.int .u32 m, .int .u32 n, .bool inn] W fun e w' => e = .returned (.bool true) ∧ Below W.heap.size W w' := by
  obtain ⟨m0, m1⟩ := bounds_u32 wm
  obtain ⟨n0, n1⟩ := bounds_u32 wn
  obtain ⟨p, hp⟩ : ∃ p : Int, (if inn then 9 else 8) = p := ⟨_, rfl⟩
  obtain ⟨o, ho⟩ : ∃ o : Int, (if inn then 1 else 0) = o := ⟨_, rfl⟩
  have p0 : 0 ≤ p := by rw [← hp]; split <;> decide
  have p1 : p ≤ 255 := by rw [← hp]; split <;> decide
  have o0 : 0 ≤ o := by rw [← ho]; split <;> decide
  have o1 : o ≤ 1 := by rw [← ho]; split <;> decide
  have hD : flI p 8 = true := by rw [← hp]; cases inn <;> decide +kernel
  have hO : oI (flI p 1) = o := by rw [← hp, ← ho]; cases inn <;> decide +kernel
  have V1 := dec_add_v m n p m0 m1 n0 n1 p0 p1 hD
  have V2 := dec_sub_v m n p m0 m1 n0 n1 p0 p1 hD
  have C1 := dec_add_c m n p m0 m1 n0 n1 p0 p1 hD
  have C2 := dec_sub_c m n p m0 m1 n0 n1 p0 p1 hD
  obtain ⟨_, _, q0, q1⟩ := dec_add m n p m0 m1 n0 n1 p0 p1 hD 5
  obtain ⟨_, _, t0, t1⟩ := dec_sub m n p m0 m1 n0 n1 p0 p1 hD 5 (by decide)
  rw [hO] at V1 V2 C2
  have R1 := fun w => rdigits_any w m 5 m0 (by omega) (by decide) (by decide) 5 (by decide)
  have R2 := fun w => rdigits_any w n 5 n0 (by omega) (by decide) (by decide) 5 (by decide)
  have D1 := fun w => digits_any' w m 5 m0 (by omega) (by decide) (by decide) 5 (by decide)
  have R3 := fun w => rdigits_any w (m + n + o) 5 (by omega) (by omega) (by decide) (by decide) 5 (by decide)
  have R4 := fun w => rdigits_any w (m + o + 10000000000 - n - 1) 5 (by omega) (by omega) (by decide) (by decide) 5 (by decide)
  obtain ⟨q, hq⟩ : ∃ q, lgP false (dg m) (dg n) p 5 = q := ⟨_, rfl⟩
  obtain ⟨t, ht⟩ : ∃ t, lgP true (dg m) (dg n) p 5 = t := ⟨_, rfl⟩
  rw [hq] at q0 q1 C1
  rw [ht] at t0 t1 C2
  have I1 := fun w => risC_any q w q0 q1
  have I2 := fun w => risC_any t w t0 t1
  rw [C1] at I1
  rw [C2] at I2
  have HR1 := Lib.hid R1
  have HR2 := Lib.hid R2
  have HR3 := Lib.hid R3
  have HR4 := Lib.hid R4
  have HD1 := Lib.hid D1
  have HI1 := Lib.hid I1
  have HI2 := Lib.hid I2
  have HV1 := Lib.hid V1
  have HV2 := Lib.hid V2
  have HQ := Lib.hid hq
  have HT := Lib.hid ht
  have HP := Lib.hid hp
  have HO := Lib.hid ho
  have edd : ∀ b : Bool, (b == b) = true := fun b => by simp
  clear V1 V2 C1 C2 R1 R2 R3 R4 D1 I1 I2 hq ht q0 q1 t0 t1 wm wn hD hO p0 p1 hp ho
  cases inn
  all_goals
    have hp := HP.out
    have ho := HO.out
    simp only [Bool.false_eq_true, if_false, if_true] at hp ho
    subst hp
    subst ho
    go_enter Try.func5, Try.ntmps5
    go_wp2_with fail
    refine (live21 _).mono ?_
    rintro e w0 ⟨rfl, b0⟩
    have HB := Lib.hid b0
    clear b0
    go_wp2_with fail
    refine (HR1.out _).mono ?_
    rintro e w1 ⟨v, rfl, own, b1⟩
    obtain ⟨A, ca, rfl, _, _, RA, _, _, _⟩ := own_row own (fun i hi => by have := dg_bd m i; exact WalkArith.wf_u8 (by omega))
    have HB1 := Lib.hid (HB.out.trans (b1.mono HB.out.size))
    have HA := Lib.hid RA
    clear b1 own RA
    go_wp2_with fail
    refine (HR2.out _).mono ?_
    rintro e w2 ⟨v, rfl, own, b2⟩
    obtain ⟨B, cb, rfl, _, _, RB, _, _, _⟩ := own_row own (fun i hi => by have := dg_bd n i; exact WalkArith.wf_u8 (by omega))
    have HB2 := Lib.hid (HB1.out.trans (b2.mono HB1.out.size))
    have HA2 := Lib.hid (HA.out.keep b2)
    have HBB := Lib.hid RB
    clear b2 own RB
    go_wp2_with fail
    refine (long_any _ false HA2.out HBB.out (by decide)).mono ?_
    rintro e w3 ⟨g, rfl, hg, RS, b3⟩
    rw [HQ.out]
    have HB3 := Lib.hid (HB2.out.trans (b3.mono HB2.out.size))
    have HA3 := Lib.hid (HA2.out.keep b3)
    have HBB3 := Lib.hid (HBB.out.keep b3)
    have HS := Lib.hid RS
    clear b3 RS
    go_wp2_with fail
    refine (long_any _ true HA3.out HBB3.out (by decide)).mono ?_
    rintro e w4 ⟨g2, rfl, hg2, RT, b4⟩
    rw [HT.out]
    have HB4 := Lib.hid (HB3.out.trans (b4.mono HB3.out.size))
    have HA4 := Lib.hid (HA3.out.keep b4)
    have HS4 := Lib.hid (HS.out.keep b4)
    have HD4 := Lib.hid RT
    clear b4 RT
    go_wp2_with fail
    refine (HD1.out _).mono ?_
    rintro e w5 ⟨g3, rfl, hg3, RX, b5⟩
    have HB5 := Lib.hid (HB4.out.trans (b5.mono HB4.out.size))
    have HA5 := Lib.hid (HA4.out.keep b5)
    have HS5 := Lib.hid (HS4.out.keep b5)
    have HD5 := Lib.hid (HD4.out.keep b5)
    have HX := Lib.hid RX
    clear b5 RX
    go_wp2_with fail
    refine (asame2 (by unfold maxLen; omega) HX.out HA5.out (fun _ _ => rfl)).mono ?_
    rintro e w6 ⟨rfl, b6⟩
    have HB6 := Lib.hid (HB5.out.trans (b6.mono HB5.out.size))
    have HS6 := Lib.hid (HS5.out.keep b6)
    have HD6 := Lib.hid (HD5.out.keep b6)
    clear b6
    go_wp2_with fail
    have r3 := HR3.out w6
    try simp only [Int.add_zero] at r3
    refine r3.mono ?_
    rintro e w7 ⟨v, rfl, own, b7⟩
    obtain ⟨E, ce, rfl, _, _, RE, _, _, _⟩ := own_row own (fun i hi => by have := dg_bd (m + n + 0) i; have := dg_bd (m + n + 1) i; have := dg_bd (m + n) i; exact WalkArith.wf_u8 (by omega))
    have HB7 := Lib.hid (HB6.out.trans (b7.mono HB6.out.size))
    have HS7 := Lib.hid (HS6.out.keep b7)
    have HD7 := Lib.hid (HD6.out.keep b7)
    have HE := Lib.hid RE
    clear b7 own RE r3
    go_wp2_with fail
    refine (asame2 (by unfold maxLen; omega) HS7.out HE.out (fun i hi => by rw [HV1.out i]; try rw [Int.add_zero])).mono ?_
    rintro e w8 ⟨rfl, b8⟩
    have HB8 := Lib.hid (HB7.out.trans (b8.mono HB7.out.size))
    have HD8 := Lib.hid (HD7.out.keep b8)
    clear b8
    go_wp2_with fail
    refine (HI1.out _).mono ?_
    rintro e w' ⟨rfl, rfl⟩
    go_wp2_with fail
    have r4 := HR4.out w8
    try simp only [Int.add_zero] at r4
    refine r4.mono ?_
    rintro e w9 ⟨v, rfl, own, b9⟩
    obtain ⟨F, cf, rfl, _, _, RF, _, _, _⟩ := own_row own (fun i hi => by have := dg_bd (m + 1 + 10000000000 - n - 1) i; have := dg_bd (m + 10000000000 - n - 1) i; exact WalkArith.wf_u8 (by omega))
    have HB9 := Lib.hid (HB8.out.trans (b9.mono HB8.out.size))
    have HD9 := Lib.hid (HD8.out.keep b9)
    have HF := Lib.hid RF
    clear b9 own RF r4
    go_wp2_with fail
    refine (asame2 (by unfold maxLen; omega) HD9.out HF.out (fun i hi => by rw [HV2.out i hi]; try rw [Int.add_zero])).mono ?_
    rintro e w10 ⟨rfl, b10⟩
    have HB10 := Lib.hid (HB9.out.trans (b10.mono HB9.out.size))
    clear b10
    go_wp2_with fail
    refine (HI2.out _).mono ?_
    rintro e w' ⟨rfl, rfl⟩
    try rw [Int.add_zero]
    go_wp2_with fail
    go_ret
    exact ⟨rfl, HB10.out⟩

theorem own : ownKnob Try.prog.godebug = none := by kernel_rfl
theorem laidOut : laidOutB Try.prog = true := by kernel_rfl
set_option maxRecDepth 100000 in
theorem lifted (os : Os) (started : os.Started) (H : Type) (enc : TypeId × Value → H) :
    ReturnsInHanded {} Try.checked os 5 .any (Rows.adderDecimalSpec.pre6 enc Try.prog Try.f5 Rows.adderDecimalRow.domain false) (Rows.adderDecimalSpec.post enc Try.prog Try.f5 false true false false) := by
  refine returnsInHanded_of_change (C := Try.checked) own started (by kernel_rfl) Try.func5
    (ChangeSpec.witness6 (enc := enc) (C := Try.checked) false ⟨#[], #[.int .u32 0, .int .u32 0, .bool false], []⟩ 8 (by kernel_rfl) (by kernel_rfl) (by kernel_rfl) (by kernel_rfl)) ?_
  intro W base args ds gs before hval0 hW _ _
  have hval : ∀ (j : Nat) t v, Try.f5.params[j]? = some t → args[j]? = some v → Value.okWide Try.prog W .any base t v := hval0
  have hW' := hW
  obtain ⟨p, q, hA0, hV, rfl, _, _⟩ := hW
  have hA : DataW.TrodAll enc Try.prog W 0 (fun _ => true) true Try.f5.params.toList args.toList ds p := hA0
  rw [Try.params5] at hA hval
  obtain ⟨v0, vs0, d0, ds0, p0, q0, hargs, rfl, rfl, h0, r0⟩ := trodAll_cons hA
  obtain ⟨v1, vs1, d1, ds1, p1, q1, rfl, rfl, rfl, h1, r1⟩ := trodAll_cons r0
  obtain ⟨v2, vs2, d2, ds2, p2, q2, rfl, rfl, rfl, h2, r2⟩ := trodAll_cons r1
  obtain ⟨rfl, rfl, rfl⟩ := trodAll_nil r2
  obtain rfl : args = #[v0, v1, v2] := by cases args; simp_all
  obtain ⟨rfl, rfl⟩ := trodVars_none hV
  obtain ⟨a0, rfl, rfl, rfl, w0⟩ := open_int Try.underlying32 (hval 0 32 v0 rfl rfl) h0
  obtain ⟨a1, rfl, rfl, rfl, w1⟩ := open_int Try.underlying32 (hval 1 32 v1 rfl rfl) h1
  obtain ⟨a2, rfl, rfl, rfl⟩ := open_bool Try.underlying4 (hval 2 4 v2 rfl rfl) h2
  clear hA0 hval0
  refine (walk a0 w0 a1 w1 a2 W).mono fun e W' ⟨he, hg⟩ => ?_
  subst he
  exact ⟨_, rfl, law_post rfl Try.underlying4 laidOut (by kernel_rfl) rfl hW' rfl hg⟩

theorem over : Rows.adderDecimalRow.holds Try.pinned (OpenSpec.ofChange Rows.adderDecimalSpec) :=
  OpenClaim.holds_of_wide 5 Try.f5 rfl rfl rfl rfl rfl rfl rfl ⟨rfl, rfl, rfl, rfl, rfl⟩ rfl rfl rfl rfl rfl (by kernel_rfl) Try.func5 (by kernel_rfl)
    (of_decide_eq_true (by kernel_rfl)) (by unfold Func.isWrapper; first | (rw [if_pos (by decide +kernel)]; kernel_rfl) | (rw [if_neg (by decide +kernel)]; exact ⟨rfl, rfl⟩))
    (fun os started H enc _ => lifted os started H enc)

theorem proved : Rows.AdderDecimalSaid := over
#print axioms proved
end Go.Proofs.Ytkmcfmflihkdjaa.adderDecimal
