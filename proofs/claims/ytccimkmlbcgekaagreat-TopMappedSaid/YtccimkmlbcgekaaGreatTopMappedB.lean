/-
  For every input TopMapped returns true, and each argument reads behind the call as it read before. No conditions.
-/
import Derived.Test.YtccimkmlbcgekaaGreatRows
import Derived.Test.YtccimkmlbcgekaaGreatKA01
import Derived.Test.YtccimkmlbcgekaaGreatKA36
import Derived.Test.YtccimkmlbcgekaaGreatKA37
import Derived.Test.YtccimkmlbcgekaaGreatKA12
namespace Go.Proofs.YtccimkmlbcgekaaGreat.topMapped
open Go.ChangeShapes Go.WideShapes Go.ChangeAt Go.RowKit
open Go.ChangeMaps (open_string)

set_option linter.unusedVariables false
set_option linter.unusedSimpArgs false
set_option maxRecDepth 100000 in
set_option maxHeartbeats 8000000 in
theorem walk (z : Nat → Int) (uz : ∀ i, (Lit.int .u8 (z i)).wf = true) (a : Int) (wa : (Lit.int .u16 a).wf = true) (v : Int) (wv : (Lit.int .u8 v).wf = true) (W : World) :
    Calls Tryz.prog 6 #[.agg (vArr 8 fun i => .int .u8 (z i)), .int .u16 a, .int .u8 v] W fun e w' => e = .returned (.bool true) ∧ Below W.heap.size W w' := by
  obtain ⟨a0, a1⟩ := bounds_u16 wa
  obtain ⟨v0, v1⟩ := bounds_u8 wv
  have HZ : Hid (∀ i, i < 8 → 0 ≤ z i ∧ z i ≤ 255) := Lib.hid fun i _ => bounds_u8 (uz i)
  clear wa wv uz
  show Calls Tryz.prog 6 #[.agg #[.int .u8 (z 0), .int .u8 (z 1), .int .u8 (z 2), .int .u8 (z 3), .int .u8 (z 4), .int .u8 (z 5), .int .u8 (z 6), .int .u8 (z 7)], .int .u16 a, .int .u8 v] W _
  have hB1 : Below W.heap.size W (W.alloc (.cells #[.int .u8 (z 0), .int .u8 (z 1), .int .u8 (z 2), .int .u8 (z 3), .int .u8 (z 4), .int .u8 (z 5), .int .u8 (z 6), .int .u8 (z 7)] 68)) := (Below.refl _ W).alloc (Nat.le_refl _) _
  have hx1 : Blk (W.alloc (.cells #[.int .u8 (z 0), .int .u8 (z 1), .int .u8 (z 2), .int .u8 (z 3), .int .u8 (z 4), .int .u8 (z 5), .int .u8 (z 6), .int .u8 (z 7)] 68)) W.heap.size 68 (p8 z) := Blk.new_ rfl
  have hbit : bitB 1 0 = true := by decide +kernel
  have HBIT := Lib.hid hbit
  clear hbit
  go_enter Tryz.func6, Tryz.ntmps6
  go_wp2_with fail
  generalize hgb : W.heap.size = gb at *
  generalize World.alloc W _ = w1 at *
  have c0 : w1.cell? ⟨gb, 0, none⟩ = some (.int .u8 (z 0)) := hx1.cell 0
  have c1 : w1.cell? ⟨gb, 1, none⟩ = some (.int .u8 (z 1)) := hx1.cell 1
  have c2 : w1.cell? ⟨gb, 2, none⟩ = some (.int .u8 (z 2)) := hx1.cell 2
  have c3 : w1.cell? ⟨gb, 3, none⟩ = some (.int .u8 (z 3)) := hx1.cell 3
  have c4 : w1.cell? ⟨gb, 4, none⟩ = some (.int .u8 (z 4)) := hx1.cell 4
  have c5 : w1.cell? ⟨gb, 5, none⟩ = some (.int .u8 (z 5)) := hx1.cell 5
  have c6 : w1.cell? ⟨gb, 6, none⟩ = some (.int .u8 (z 6)) := hx1.cell 6
  have c7 : w1.cell? ⟨gb, 7, none⟩ = some (.int .u8 (z 7)) := hx1.cell 7
  have HB1 := Lib.hid hB1
  clear hx1 hB1
  refine (bit_any 1 0 _).mono ?_
  rw [HBIT.out]
  rintro e w' ⟨rfl, rfl⟩
  go_wp2_with fail
  clear c0 c1 c2 c3 c4 c5 c6 c7
  refine (mof_any z 0 _).mono ?_
  rintro e w2 ⟨g8, rfl, hg8, hm8, b8⟩
  have HB2' := Lib.hid (HB1.out.trans (b8.mono (by have := HB1.out.size; omega)))
  have HM2 := Lib.hid hm8
  have hm8lt := hm8.lt_
  clear b8 hm8 HB1
  go_wp2_with fail
  refine (hnew_none _).mono ?_
  rintro e w3 ⟨p, b, rfl, hg3, hp3, b3⟩
  have HB3 := Lib.hid b3
  have HP3 := Lib.hid hp3
  clear hp3 b3
  go_upto_region 5 with fail
  have hb4 : Below w2.heap.size w2 (w3.alloc (.cells #[.int .i64 0, .int .i64 0] 34)) := HB3.out.alloc HB3.out.size _
  have hp4 : HP (w3.alloc (.cells #[.int .i64 0, .int .i64 0] 34)) p d0 b Hp.new := HP3.out.kp0 ((Kp.refl _ _).alloc _)
  generalize w3.heap.size = gf at *
  generalize World.alloc w3 _ = w4 at *
  have HB4 := Lib.hid hb4
  have HP4 := Lib.hid hp4
  clear hb4 hp4 HB3 HP3
  go_wp2_with fail
  refine (bnew_any (A := none) (n := 0) (c := 0) (z := fun _ => 0) HP4.out (fun _ => ⟨rfl, rfl⟩) (by omega) (fun i hi => absurd hi (by omega)) 100).mono ?_
  rintro e w5 r5
  obtain ⟨g, Q, rv, rfl, t5, -, -⟩ := BT.new (B := w2.heap.size) (W := w2) HB4.out HB4.out.size hg3 r5
  have hs0 : (Bs.new rv 0 (fun _ => 0) Hp.new 100).room 0 ∧ (Bs.new rv 0 (fun _ => 0) Hp.new 100).left = 100 ∧ (Bs.new rv 0 (fun _ => 0) Hp.new 100).f = fun _ => 0 := ⟨room_new, rfl, rfl⟩
  have T0 := Lib.hid t5
  obtain ⟨s, hs⟩ : ∃ s, Bs.new rv 0 (fun _ => 0) Hp.new 100 = s := ⟨_, rfl⟩
  rw [hs] at T0 hs0
  obtain ⟨rm, lf, hf⟩ := hs0
  have RM0 := Lib.hid rm
  have LF := Lib.hid lf
  have FF := Lib.hid hf
  clear t5 r5 HB4 HP4 hg3 hs rm lf hf
  go_wp2_with fail
  refine (bleft_any T0.out.u).mono ?_
  rw [LF.out]
  rintro e w' ⟨rfl, rfl⟩
  go_wp2_with fail
  have hMM := HM2.out.below T0.out.bw hm8lt
  refine (mphys_of (banks_any hMM) HZ.out a a0 a1).mono ?_
  obtain ⟨at_, hat⟩ : ∃ x, phI z a = x := ⟨_, rfl⟩
  have hab := phI_bd z a a0 a1 HZ.out
  rw [hat] at hab ⊢
  have HAT := Lib.hid hat
  rintro e w6 ⟨rfl, b6⟩
  have T1 := Lib.hid (T0.out.on b6)
  clear b6 T0 hMM hat
  go_wp2_with fail
  refine (bwrite_some T1.out.u at_ v 4 hab.1 (by omega) v0 v1 (by rw [LF.out]; omega) (by have := RM0.out.1; omega) (by have := RM0.out.2.1; omega) (Hp.lim_mono RM0.out.2.2.1 (by omega)) (by have := RM0.out.2.2.2; omega)).mono ?_
  rintro e w7 r7
  obtain ⟨Q2, rfl, t7, -⟩ := T1.out.go r7
  have T2 := Lib.hid t7
  have R2 := Lib.hid (wrS_room (d := d0) (a := at_) (v := v) (kd := 4) RM0.out)
  have L2 : Hid ((s.wrS d0 at_ v 4).left = 99) := Lib.hid (by rw [wrS_left, LF.out]; rfl)
  have F2 : Hid ((whereI at_ = 1 → (s.wrS d0 at_ v 4).f (at_ % 8192).toNat = v) ∧ (whereI at_ ≠ 1 → (s.wrS d0 at_ v 4).f = fun _ => 0)) := Lib.hid (by
    refine ⟨fun h => ?_, fun h => ?_⟩
    · rw [wrS_f_yes (ram_bank at_ hab.1 h) h]
      unfold fw offI
      rw [if_pos (by congr 1; omega)]
    · show ((s.beg d0 at_).chS at_ v).f = _
      unfold Bs.chS
      split
      · exact FF.out
      · first | exact FF.out | (rw [if_neg h]; exact FF.out))
  obtain ⟨s2, hs2⟩ : ∃ s2, s.wrS d0 at_ v 4 = s2 := ⟨_, rfl⟩
  rw [hs2] at T2 R2 L2 F2
  clear t7 r7 T1 RM0 LF FF hs2
  go_wp2_with fail
  have hM7 := HM2.out.below T2.out.bw hm8lt
  refine (mseen_any hM7 HZ.out at_ hab.1 (by omega)).mono ?_
  rintro e w8 ⟨vl, rfl, o8, b8⟩
  rw [seL_ints, intsOf_len] at o8
  obtain ⟨A, cap, rfl, hc1, hc2, hI8, hT8, -, -⟩ := own_row o8 (fun i hi => seZ_wf z at_ hab.1 i hi)
  have T3 := Lib.hid (T2.out.on b8)
  have HI8 := Lib.hid hI8
  have HT8 := Lib.hid hT8
  have hN8 := seN_le z at_
  have hone : (seN z at_).countP (fun y => y == a) = 1 := by rw [← HAT.out]; exact seen_once z a a0 a1 HZ.out
  have hspec : ∀ i, i < (seN z at_).length → 0 ≤ seZ z at_ i ∧ seZ z at_ i ≤ 65535 ∧ phI z (seZ z at_ i) = at_ := fun i hi => by
    have := seZ_spec z at_ hab.1 i hi
    rwa [show at_ % 2097152 = at_ by omega] at this
  have HSP := Lib.hid hspec
  have HONE := Lib.hid hone
  obtain ⟨N, hN⟩ : ∃ N, (seN z at_).length = N := ⟨_, rfl⟩
  have HN := Lib.hid hN
  rw [hN] at hc1 HI8 HSP hN8 ⊢
  obtain ⟨k, hk⟩ : ∃ k, whereI at_ = k := ⟨_, rfl⟩
  have HK := Lib.hid hk
  rw [hk] at F2
  clear o8 b8 hI8 hT8 T2 hM7 hone hspec hN hk hab
  have hab := phI_bd z a a0 a1 HZ.out
  rw [HAT.out] at hab
  go_wp2_with fail
  go_loopw [13, 14] (fun cn i wr => ∃ j : Nat, j ≤ N ∧ i = .int .i64 j ∧ cn = .int .i64 (cntA (seN z at_) a j) ∧ IRow wr .u16 A N (seZ z at_) ∧ Typed wr A 69 ∧ ∃ Q t, BT w2.heap.size w2 wr g d0 Q t ∧ t.room (j + 1) ∧ 99 - (j : Int) ≤ t.left ∧ t.f = s2.f) (fun _ i _ => N - (intOf i).toNat)
  case atStart => exact ⟨0, by omega, rfl, rfl, HI8.out, HT8.out, Q2, s2, T3.out, R2.out, by rw [L2.out]; omega, rfl⟩
  case round =>
    obtain ⟨j, hj, rfl, rfl, hI, hTy, Q5, t, hT, hR, hL, hF⟩ := hrel
    have T5 := Lib.hid hT
    have R5 := Lib.hid hR
    have F5 := Lib.hid hF
    have HI := Lib.hid hI
    have HTy := Lib.hid hTy
    have hcl := cntA_le (seN z at_) a j
    clear T3 R2 L2 HI8 HT8
    by_cases hlj : j < N
    · obtain ⟨ad, rfl, l1, cA, _⟩ := hI j hlj
      obtain ⟨y0, y1, y2⟩ := HSP.out j hlj
      have hcs := cntA_succ (seN z at_) a j (by rw [HN.out]; exact hlj)
      rw [show (seN z at_).getD j 0 = seZ z at_ j from rfl] at hcs
      obtain ⟨y, hy⟩ : ∃ y, seZ z at_ j = y := ⟨_, rfl⟩
      obtain ⟨cn, hcn⟩ : ∃ cn, cntA (seN z at_) a j = cn := ⟨_, rfl⟩
      have SEQ := Lib.hid hy
      rw [hy] at cA y0 y1 y2 hcs
      rw [hcn] at hcs hcl ⊢
      have i0 : (0 : Int) ≤ (j : Int) := by omega
      have i1 : (j : Int) < (N : Int) := by omega
      have Y2 := Lib.hid y2
      have HCS := Lib.hid hcs
      have wc : IntKind.i64.wrap ((cn : Int) + 1) = (cn : Int) + 1 := IntWalk.i64_in _ (by omega)
      clear hT hR hF hI hTy y2 hcs hcn hy
      go_wp2_with fail
      refine (where_any at_ _ hab.1 (by omega)).mono ?_
      rw [HK.out]
      rintro e w9 ⟨rfl, b9⟩
      replace cA : w9.cell? (ad.add j) = some (.int .u16 y) := (b9.cell (p := ad.add j) (by rw [block_of_add]; exact l1)).trans cA
      replace T5 := Lib.hid (T5.out.on b9)
      replace HI := Lib.hid (HI.out.keep b9)
      replace HTy := Lib.hid (HTy.out.kp (Kp.of_below (L := ([] : List Nat)) b9) (by simp))
      clear l1
      by_cases k1 : k = 1
      · subst k1
        go_wp2_with fail
        have hM9 := HM2.out.below T5.out.bw hm8lt
        refine (mphys_of (banks_any hM9) HZ.out y y0 y1).mono ?_
        rw [Y2.out]
        rintro e w10 ⟨rfl, b10⟩
        replace T5 := Lib.hid (T5.out.on b10)
        replace HI := Lib.hid (HI.out.keep b10)
        replace HTy := Lib.hid (HTy.out.kp (Kp.of_below (L := ([] : List Nat)) b10) (by simp))
        clear b9 b10 hM9 cA
        have hrv : t.rdV d0 at_ = v := by rw [rdV_ram (ram_bank at_ hab.1 HK.out) HK.out, F5.out]; exact F2.out.1 (by trivial)
        have HRV := Lib.hid hrv
        have nn : (v != v) = false := by simp
        clear hrv
        go_wp2_with fail
        refine (bread_some T5.out.u at_ 3 hab.1 (by omega) (by omega) (by have := R5.out.1; omega) (by have := R5.out.2.1; omega) (Hp.lim_mono R5.out.2.2.1 (by omega)) (by have := R5.out.2.2.2; omega)).mono ?_
        rw [HRV.out]
        rintro e w11 r11
        obtain ⟨Q6, rfl, t6, k6, -⟩ := T5.out.go r11
        have hoff : ∀ ad', some ad = some ad' → ad'.block ∉ bL g Q5 := fun ad' e => by
          obtain ⟨C, hC⟩ := HTy.out ad' e
          exact T5.out.u.off hC (by decide) (by decide) (by decide) (by decide) (by decide)
        have HI6 := Lib.hid (HI.out.kp k6 hoff)
        have HTy6 := Lib.hid (HTy.out.kp k6 hoff)
        have T6 := Lib.hid t6
        obtain ⟨ad2, e2, _, cA, _⟩ := HI6.out j hlj
        obtain rfl := Option.some.inj e2
        rw [SEQ.out] at cA
        clear t6 k6 hoff r11 T5 HI HTy nn e2
        by_cases hya : y = a
        · have hyb : (y == a) = true := by simpa using hya
          rw [hyb, if_pos rfl] at HCS
          clear hya
          go_wp2_with fail
          go_roundw
          case rel => exact ⟨j + 1, by omega, by go_num, by rw [HCS.out]; go_num, HI6.out, HTy6.out, Q6, _, T6.out, rdS_room R5.out, by rw [rdS_f.2]; omega, by rw [rdS_f.1]; exact F5.out⟩
          case measure => simp [intOf]; omega
        · have hyb : (y == a) = false := by simpa using hya
          rw [hyb] at HCS
          clear hya
          go_wp2_with fail
          go_roundw
          case rel => exact ⟨j + 1, by omega, by go_num, by rw [HCS.out]; simp, HI6.out, HTy6.out, Q6, _, T6.out, rdS_room R5.out, by rw [rdS_f.2]; omega, by rw [rdS_f.1]; exact F5.out⟩
          case measure => simp [intOf]; omega
      · have n1 : (k == 1) = false := by simpa using k1
        by_cases hya : y = a
        · have hyb : (y == a) = true := by simpa using hya
          rw [hyb, if_pos rfl] at HCS
          clear hya b9
          go_wp2_with fail
          go_roundw
          case rel => exact ⟨j + 1, by omega, by go_num, by rw [HCS.out]; go_num, HI.out, HTy.out, Q5, t, T5.out, room_mono R5.out (by omega), by omega, F5.out⟩
          case measure => simp [intOf]; omega
        · have hyb : (y == a) = false := by simpa using hya
          rw [hyb] at HCS
          clear hya b9
          go_wp2_with fail
          go_roundw
          case rel => exact ⟨j + 1, by omega, by go_num, by rw [HCS.out]; simp, HI.out, HTy.out, Q5, t, T5.out, room_mono R5.out (by omega), by omega, F5.out⟩
          case measure => simp [intOf]; omega
    · obtain rfl : j = N := by omega
      have g0 : ¬ (j : Int) < (j : Int) := by omega
      rw [cntA_all _ _ _ (by rw [HN.out]; omega), HONE.out]
      clear hT hR hF hI hTy hcl
      go_wp2_with fail
      refine (where_any at_ _ hab.1 (by omega)).mono ?_
      rw [HK.out]
      rintro e w9 ⟨rfl, b9⟩
      replace T5 := Lib.hid (T5.out.on b9)
      clear b9
      by_cases k1 : k = 1
      · subst k1
        go_wp2_with fail
        all_goals
          go_ret
          exact ⟨rfl, by rw [hgb]; exact HB2'.out.trans (T5.out.bw.mono (by have := HB2'.out.size; omega))⟩
      · have n1 : (k == 1) = false := by simpa using k1
        have hfz : t.f = fun _ => 0 := by rw [F5.out]; exact F2.out.2 k1
        have HFZ := Lib.hid hfz
        clear hfz
        go_wp2_with fail
        refine (bram_any T5.out.u).mono ?_
        rw [HFZ.out]
        rintro e w10 ⟨⟨vp, ps, B, rfl, ho, -⟩, b10⟩
        rw [runs_zeros] at ho
        have hvp : ∃ A c, vp = .slice A 0 c := by
          rcases ho.2 with ⟨rfl, _⟩ | ⟨gx, cx, _, rfl, _⟩
          · exact ⟨_, _, rfl⟩
          · exact ⟨_, _, rfl⟩
        obtain ⟨Ap, cp, rfl⟩ := hvp
        have BB := Lib.hid (T5.out.bw.trans (b10.mono T5.out.sz))
        clear ho b10
        go_wp2_with fail
        all_goals
          go_ret
          exact ⟨rfl, by rw [hgb]; exact HB2'.out.trans (BB.out.mono (by have := HB2'.out.size; omega))⟩

theorem own : ownKnob Tryz.prog.godebug = none := by kernel_rfl
theorem laidOut : laidOutB Tryz.prog = true := by kernel_rfl
set_option maxRecDepth 100000 in
theorem lifted (os : Os) (started : os.Started) (H : Type) (enc : TypeId × Value → H) :
    ReturnsInHanded {} Tryz.checked os 6 .any (Rows.topMappedSpec.pre6 enc Tryz.prog Tryz.f6 Rows.topMappedRow.domain false) (Rows.topMappedSpec.post enc Tryz.prog Tryz.f6 false true false false) := by
  refine returnsInHanded_of_change (C := Tryz.checked) own started (by kernel_rfl) Tryz.func6
    (ChangeSpec.witness6 (enc := enc) (C := Tryz.checked) false ⟨#[], #[.agg #[.int .u8 0, .int .u8 0, .int .u8 0, .int .u8 0, .int .u8 0, .int .u8 0, .int .u8 0, .int .u8 0], .int .u16 0, .int .u8 0], []⟩ 8 (by kernel_rfl) (by kernel_rfl) (by kernel_rfl) (by kernel_rfl)) ?_
  intro W base args ds gs before hval0 hW _ _
  have hval : ∀ (j : Nat) t v, Tryz.f6.params[j]? = some t → args[j]? = some v → Value.okWide Tryz.prog W .any base t v := hval0
  have hW' := hW
  obtain ⟨p, q, hA0, hV, rfl, _, _⟩ := hW
  have hA : DataW.TrodAll enc Tryz.prog W 0 (fun _ => true) true Tryz.f6.params.toList args.toList ds p := hA0
  rw [Tryz.params6] at hA hval
  obtain ⟨v0, vs0, d0, ds0, p0, q0, hargs, rfl, rfl, h0, r0⟩ := trodAll_cons hA
  obtain ⟨v1, vs1, d1, ds1, p1, q1, rfl, rfl, rfl, h1, r1⟩ := trodAll_cons r0
  obtain ⟨v2, vs2, d2, ds2, p2, q2, rfl, rfl, rfl, h2, r2⟩ := trodAll_cons r1
  obtain ⟨rfl, rfl, rfl⟩ := trodAll_nil r2
  obtain rfl : args = #[v0, v1, v2] := by cases args; simp_all
  obtain ⟨rfl, rfl⟩ := trodVars_none hV
  obtain ⟨z0, rfl, u0⟩ := array_ints_v Tryz.underlying68 Tryz.underlying5 (by kernel_rfl) (by kernel_rfl) (hval 0 68 v0 rfl rfl) h0
  obtain ⟨a1, rfl, rfl, rfl, w1⟩ := open_int Tryz.underlying69 (hval 1 69 v1 rfl rfl) h1
  obtain ⟨a2, rfl, rfl, rfl, w2⟩ := open_int Tryz.underlying5 (hval 2 5 v2 rfl rfl) h2
  clear hA0 hval0
  refine (walk z0 u0 a1 w1 a2 w2 W).mono fun e W' ⟨he, hg⟩ => ?_
  subst he
  exact ⟨_, rfl, law_post rfl Tryz.underlying4 laidOut (by kernel_rfl) rfl hW' rfl hg⟩

theorem over : Rows.topMappedRow.holds Tryz.pinned (OpenSpec.ofChange Rows.topMappedSpec) :=
  OpenClaim.holds_of_wide 6 Tryz.f6 rfl rfl rfl rfl rfl rfl rfl ⟨rfl, rfl, rfl, rfl, rfl⟩ rfl rfl rfl rfl rfl (by kernel_rfl) Tryz.func6 (by kernel_rfl)
    (of_decide_eq_true (by kernel_rfl)) (by unfold Func.isWrapper; first | (rw [if_pos (by decide +kernel)]; kernel_rfl) | (rw [if_neg (by decide +kernel)]; exact ⟨rfl, rfl⟩))
    (fun os started H enc _ => lifted os started H enc)

theorem proved : Rows.TopMappedSaid := over
#print axioms proved
end Go.Proofs.YtccimkmlbcgekaaGreat.topMapped
