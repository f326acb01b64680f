/-
  For every input AdderBinary returns true, and each argument reads behind the call as it read before. No conditions.
-/
import Derived.Test.YtkmcfmflihkdjaaRows
import Derived.Test.YtkmcfmflihkdjaaG3
import Derived.Test.YtkmcfmflihkdjaaAdd6
import Derived.Test.YtkmcfmflihkdjaaAdd8
namespace Go.Proofs.Ytkmcfmflihkdjaa.adderBinary
open Go.ChangeShapes Go.WideShapes Go.ChangeAt Go.RowKit
open Go.ChangeMaps (open_string)

set_option linter.unusedVariables false
set_option linter.unusedSimpArgs false
set_option maxRecDepth 100000 in
set_option maxHeartbeats 8000000 in
theorem walk (m : Int) (wm : (Lit.int .u64 m).wf = true) (n : Int) (wn : (Lit.int .u64 n).wf = true) (W : World) :
    Calls Try.prog 6 #[.int .u64 m, .int .u64 n] W fun e w' => e = .returned (.bool true) ∧ Below W.heap.size W w' := by
  obtain ⟨m0, m1⟩ := bounds_u64 wm
  obtain ⟨n0, n1⟩ := bounds_u64 wn
  clear wm wn
  go_enter Try.func6, Try.ntmps6
  go_wp2_with fail
  refine (live21 _).mono ?_
  rintro e w0 ⟨rfl, b0⟩
  have HB := Lib.hid b0
  clear b0
  go_wp2_with fail
  go_loopw [5, 6, 7] (fun va vb i wr => ∃ k : Nat, k ≤ 8 ∧ i = .int .i64 k ∧ wr.ownsRow w0.heap.size 5 1 va k (intsOf .u8 (bt m) k) ∧ wr.ownsRow w0.heap.size 5 1 vb k (intsOf .u8 (bt n) k) ∧ Dif va vb ∧ Below w0.heap.size w0 wr) (fun _ _ i _ => 8 - (intOf i).toNat)
  case atStart => exact ⟨0, by omega, rfl, World.ownsRow_nil _ _ _ _, World.ownsRow_nil _ _ _ _, fun x h => by simp [Value.ownBlock] at h, Below.refl _ _⟩
  case round =>
    obtain ⟨k, hk, rfl, oa, ob, hd, hB⟩ := hrel
    have hS := hB.size
    by_cases hlt : k < 8
    · obtain ⟨x, hx⟩ : ∃ x, m / 2 ^ (8 * k) % 256 = x := ⟨_, rfl⟩
      obtain ⟨y, hy⟩ : ∃ y, n / 2 ^ (8 * k) % 256 = y := ⟨_, rfl⟩
      have ex : bt m k = x := by rw [← hx, bq_pow]; rfl
      have ey : bt n k = y := by rw [← hy, bq_pow]; rfl
      obtain ⟨va', w1, run1, oa1, gb1, hv1⟩ := more_at (P := Try.prog) (t := 27) (e := 5) (ty := 27) (c := 1) (m := 1) Try.underlying27 u8_inf rfl (by decide) oa #[.int .u8 x] rfl (fun x hx => by simp at hx; subst hx; rfl) rfl (by omega) (by omega) hS
      have hB1 : Below w0.heap.size w0 w1 := (hB.alloc hS (.cells #[.int .u8 x] 5)).grown gb1 (by simp; omega) (fun i h => (oa.lt i h).1)
      have ob1 : w1.ownsRow w0.heap.size 5 1 u6 k (intsOf .u8 (bt n) k) := (ob.alloc _).kept gb1 hd.kept
      have hd1 : Dif va' u6 := hd.moved ob hv1
      have hS1 := hB1.size
      obtain ⟨vb', w2, run2, ob2, gb2, hv2⟩ := more_at (P := Try.prog) (t := 27) (e := 5) (ty := 27) (c := 1) (m := 1) Try.underlying27 u8_inf rfl (by decide) ob1 #[.int .u8 y] rfl (fun x hx => by simp at hx; subst hx; rfl) rfl (by omega) (by omega) hS1
      have hB2 : Below w0.heap.size w0 w2 := (hB1.alloc hS1 (.cells #[.int .u8 y] 5)).grown gb2 (by simp; omega) (fun i h => (ob1.lt i h).1)
      have oa2 : w2.ownsRow w0.heap.size 5 1 va' (k + 1) (intsOf .u8 (bt m) k ++ [.int .u8 x]) := (oa1.alloc _).kept gb2 hd1.symm.kept
      have hd2 : Dif va' vb' := (hd1.symm.moved oa1 hv2).symm
      rw [← ex, ← intsOf_snoc] at oa2
      have ob3 : w2.ownsRow w0.heap.size 5 1 vb' (k + 1) (intsOf .u8 (bt n) k ++ [.int .u8 y]) := ob2
      rw [← ey, ← intsOf_snoc] at ob3
      have OA := Lib.hid oa2
      have OB := Lib.hid ob3
      have HD := Lib.hid hd2
      have HB2 := Lib.hid hB2
      clear oa ob hd hB oa1 gb1 hv1 hB1 ob1 hd1 ob2 gb2 hv2 hB2 oa2 hd2 ob3 ex ey hS1
      go_wp2_with (at_builtin; (try rw [hx]); (try rw [hy]); first | (refine wpList_append_run rfl (.tmp 22) (.tmp 29) 27 rfl rfl rfl run1 ?_) | (refine wpList_append_run rfl (.tmp 31) (.tmp 38) 27 rfl rfl rfl run2 ?_))
      go_roundw
      case rel => exact ⟨k + 1, by omega, by go_num, OA.out, OB.out, HD.out, HB2.out⟩
      case measure => simp [intOf]; omega
    · obtain rfl : k = 8 := by omega
      obtain ⟨A, ca, rfl, _, _, RA, _, _, _⟩ := own_row oa (fun i hi => by have := bt_bd m i; exact WalkArith.wf_u8 (by omega))
      obtain ⟨B, cb, rfl, _, _, RB, _, _, _⟩ := own_row ob (fun i hi => by have := bt_bd n i; exact WalkArith.wf_u8 (by omega))
      have HA := Lib.hid RA
      have HBB := Lib.hid RB
      replace HB := Lib.hid (HB.out.trans (hB.mono HB.out.size))
      clear oa ob hd hB RA RB
      have V1 := bin_add_v (bt m) (bt n) m n 0 (by decide) (by decide) (by decide +kernel) 8 (fun _ _ => rfl) (fun _ _ => rfl)
      have C1 := bin_add (bt m) (bt n) m n 0 (by decide) (by decide) (by decide +kernel) 8 (fun _ _ => rfl) (fun _ _ => rfl) 8 (by decide)
      rw [show oI (flI 0 1) = 0 by decide +kernel, Int.add_zero] at V1 C1
      obtain ⟨S, hSS⟩ : ∃ S, (m + n) % 18446744073709551616 = S := ⟨_, rfl⟩
      have V1' : ∀ k, k < 8 → lgV false (bt m) (bt n) 0 k = bt S k := fun k hk => by rw [V1 k hk, ← hSS, bt_mod _ k hk]
      have S0 : 0 ≤ S := by omega
      have S1 : S ≤ 18446744073709551615 := by omega
      have D1 : flI 1 8 = false := by decide +kernel
      have LS := lg_sub (lgV false (bt m) (bt n) 0) (bt n) 1 (by decide) (by decide) D1
      have LV := lg_subv (lgV false (bt m) (bt n) 0) (bt n) 1 (by decide) (by decide) D1
      have V2 := bin_add_v (lgV false (bt m) (bt n) 0) (fun i => 255 - bt n i) S (18446744073709551615 - n) 1 (by decide) (by decide) D1 8 V1' (fun k hk => bt_comp n n0 n1 k hk)
      have C2 := bin_add (lgV false (bt m) (bt n) 0) (fun i => 255 - bt n i) S (18446744073709551615 - n) 1 (by decide) (by decide) D1 8 V1' (fun k hk => bt_comp n n0 n1 k hk) 8 (by decide)
      rw [show oI (flI 1 1) = 1 by decide +kernel] at V2 C2
      have V2' : ∀ k, k < 8 → lgV true (lgV false (bt m) (bt n) 0) (bt n) 1 k = bt m k := fun k hk => by
        rw [LV k, V2 k hk, ← bt_mod _ k hk]
        congr 1
        omega
      obtain ⟨c1, _, q0, q1⟩ := C1
      obtain ⟨c2, _, t0, t1⟩ := C2
      rw [← (LS 8).1] at c2 t0 t1
      rw [bq8, bq8, bq8] at c1 c2
      have I1 := fun w => risC_any _ w q0 q1
      have I2 := fun w => risC_any _ w t0 t1
      have f1 : flI (lgP false (bt m) (bt n) 0 8) 1 = decide (S < m) := by
        cases h : flI (lgP false (bt m) (bt n) 0 8) 1 with
        | false => rw [h, show oI false = 0 from rfl] at c1; symm; apply decide_eq_false; omega
        | true => rw [h, show oI true = 1 from rfl] at c1; symm; apply decide_eq_true; omega
      have f2 : flI (lgP true (lgV false (bt m) (bt n) 0) (bt n) 1 8) 1 = decide (n ≤ S) := by
        cases h : flI (lgP true (lgV false (bt m) (bt n) 0) (bt n) 1 8) 1 with
        | false => rw [h, show oI false = 0 from rfl] at c2; symm; apply decide_eq_false; omega
        | true => rw [h, show oI true = 1 from rfl] at c2; symm; apply decide_eq_true; omega
      rw [f1] at I1
      rw [f2] at I2
      have hwr : IntKind.u64.wrap (m + n) = S := by rw [IntKind.wrap_u64]; exact hSS
      obtain ⟨q, hq⟩ : ∃ q, lgP false (bt m) (bt n) 0 8 = q := ⟨_, rfl⟩
      obtain ⟨t, ht⟩ : ∃ t, lgP true (lgV false (bt m) (bt n) 0) (bt n) 1 8 = t := ⟨_, rfl⟩
      rw [hq] at I1
      rw [ht] at I2
      have HI1 := Lib.hid I1
      have HI2 := Lib.hid I2
      have HV1 := Lib.hid V1'
      have HV2 := Lib.hid V2'
      have HQ := Lib.hid hq
      have HT := Lib.hid ht
      have HW := Lib.hid hwr
      have X0 : bq S 8 = 0 := by rw [bq8]; omega
      have HX0 := Lib.hid X0
      clear V1 V1' V2 V2' c1 c2 I1 I2 f1 f2 LS LV D1 hq ht q0 q1 t0 t1 hwr X0 hSS
      go_wp2_with fail
      refine (long_any _ false HA.out HBB.out (by decide)).mono ?_
      rintro e w3 ⟨g, rfl, hg, RS, b3⟩
      rw [HQ.out]
      have HB3 := Lib.hid (HB.out.trans (b3.mono HB.out.size))
      have HA3 := Lib.hid (HA.out.keep b3)
      have HBB3 := Lib.hid (HBB.out.keep b3)
      have HS := Lib.hid RS
      clear b3 RS
      go_wp2_with fail
      refine (long_any _ true HS.out HBB3.out (by decide)).mono ?_
      rintro e w4 ⟨g2, rfl, hg2, RT, b4⟩
      rw [HT.out]
      have HB4 := Lib.hid (HB3.out.trans (b4.mono HB3.out.size))
      have HA4 := Lib.hid (HA3.out.keep b4)
      have HS4 := Lib.hid ((HS.out.keep b4).congr HV1.out)
      have HD4 := Lib.hid (RT.congr HV2.out)
      clear b4 RT
      go_wp2_with fail
      go_loopw [14, 15] (fun x i wx => ∃ j : Nat, j ≤ 8 ∧ i = .int .i64 ((j : Int) - 1) ∧ x = .int .u64 (bq S j) ∧ wx = w4) (fun _ i _ => (intOf i + 1).toNat)
      case atStart => exact ⟨8, by omega, rfl, by rw [HX0.out], rfl⟩
      case round =>
        obtain ⟨j, hj, rfl, rfl, rfl⟩ := hrel
        by_cases hj0 : 0 < j
        · obtain ⟨i, rfl⟩ : ∃ i, j = i + 1 := ⟨j - 1, by omega⟩
          obtain ⟨gd, hgd, hgl, hcell, hwf⟩ := HS4.out i (by omega)
          cases hgd
          rw [add_zero_block] at hcell
          obtain ⟨u0, u1⟩ := bt_bd S i
          have hb0 := bq_nn S S0 (i + 1)
          have hs : bq S (i + 1) * 256 + bt S i = bq S i := by simp only [bq, bt]; omega
          have hle : bq S i ≤ 18446744073709551615 := bq_le S S0 S1 i
          obtain ⟨X, hX⟩ : ∃ X, bq S (i + 1) = X := ⟨_, rfl⟩
          obtain ⟨U, hU⟩ : ∃ U, bt S i = U := ⟨_, rfl⟩
          obtain ⟨Y, hY⟩ : ∃ Y, bq S i = Y := ⟨_, rfl⟩
          rw [hX] at hb0 hs ⊢
          rw [hU] at hs u0 u1 hcell
          rw [hY] at hs hle
          have ec : ((i + 1 : Nat) : Int) - 1 = (i : Int) := by omega
          rw [ec]
          have EY := Lib.hid hY
          have ES := Lib.hid hs
          clear hX hU hY hwf
          go_wp2_with fail
          exact ⟨⟨i, by omega, rfl, by rw [EY.out], trivial⟩, by simp only [intOf]; omega⟩
        · obtain rfl : j = 0 := by omega
          have hw := HW.out
          have eS : (S == S) = true := by simp
          have edd : ∀ b : Bool, (b == b) = true := fun b => by simp
          rw [show bq S 0 = S from rfl]
          go_wp2_with fail
          refine (HI1.out _).mono ?_
          rintro e w' ⟨rfl, rfl⟩
          go_wp2_with fail
          refine (asame2 (by decide) HD4.out HA4.out (fun _ _ => rfl)).mono ?_
          rintro e w5 ⟨rfl, b5⟩
          have HB5 := Lib.hid (HB4.out.trans (b5.mono HB4.out.size))
          clear b5
          go_wp2_with fail
          refine (HI2.out _).mono ?_
          rintro e w' ⟨rfl, rfl⟩
          go_wp2_with fail
          go_ret
          exact ⟨rfl, HB5.out⟩

theorem own : ownKnob Try.prog.godebug = none := by kernel_rfl
theorem laidOut : laidOutB Try.prog = true := by kernel_rfl
set_option maxRecDepth 100000 in
theorem lifted (os : Os) (started : os.Started) (H : Type) (enc : TypeId × Value → H) :
    ReturnsInHanded {} Try.checked os 6 .any (Rows.adderBinarySpec.pre6 enc Try.prog Try.f6 Rows.adderBinaryRow.domain false) (Rows.adderBinarySpec.post enc Try.prog Try.f6 false true false false) := by
  refine returnsInHanded_of_change (C := Try.checked) own started (by kernel_rfl) Try.func6
    (ChangeSpec.witness6 (enc := enc) (C := Try.checked) false ⟨#[], #[.int .u64 0, .int .u64 0], []⟩ 8 (by kernel_rfl) (by kernel_rfl) (by kernel_rfl) (by kernel_rfl)) ?_
  intro W base args ds gs before hval0 hW _ _
  have hval : ∀ (j : Nat) t v, Try.f6.params[j]? = some t → args[j]? = some v → Value.okWide Try.prog W .any base t v := hval0
  have hW' := hW
  obtain ⟨p, q, hA0, hV, rfl, _, _⟩ := hW
  have hA : DataW.TrodAll enc Try.prog W 0 (fun _ => true) true Try.f6.params.toList args.toList ds p := hA0
  rw [Try.params6] at hA hval
  obtain ⟨v0, vs0, d0, ds0, p0, q0, hargs, rfl, rfl, h0, r0⟩ := trodAll_cons hA
  obtain ⟨v1, vs1, d1, ds1, p1, q1, rfl, rfl, rfl, h1, r1⟩ := trodAll_cons r0
  obtain ⟨rfl, rfl, rfl⟩ := trodAll_nil r1
  obtain rfl : args = #[v0, v1] := by cases args; simp_all
  obtain ⟨rfl, rfl⟩ := trodVars_none hV
  obtain ⟨a0, rfl, rfl, rfl, w0⟩ := open_int Try.underlying34 (hval 0 34 v0 rfl rfl) h0
  obtain ⟨a1, rfl, rfl, rfl, w1⟩ := open_int Try.underlying34 (hval 1 34 v1 rfl rfl) h1
  clear hA0 hval0
  refine (walk a0 w0 a1 w1 W).mono fun e W' ⟨he, hg⟩ => ?_
  subst he
  exact ⟨_, rfl, law_post rfl Try.underlying4 laidOut (by kernel_rfl) rfl hW' rfl hg⟩

theorem over : Rows.adderBinaryRow.holds Try.pinned (OpenSpec.ofChange Rows.adderBinarySpec) :=
  OpenClaim.holds_of_wide 6 Try.f6 rfl rfl rfl rfl rfl rfl rfl ⟨rfl, rfl, rfl, rfl, rfl⟩ rfl rfl rfl rfl rfl (by kernel_rfl) Try.func6 (by kernel_rfl)
    (of_decide_eq_true (by kernel_rfl)) (by unfold Func.isWrapper; first | (rw [if_pos (by decide +kernel)]; kernel_rfl) | (rw [if_neg (by decide +kernel)]; exact ⟨rfl, rfl⟩))
    (fun os started H enc _ => lifted os started H enc)

theorem proved : Rows.AdderBinarySaid := over
#print axioms proved
end Go.Proofs.Ytkmcfmflihkdjaa.adderBinary
