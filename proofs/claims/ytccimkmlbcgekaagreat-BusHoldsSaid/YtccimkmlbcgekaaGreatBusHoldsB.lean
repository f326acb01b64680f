/-
  For every input BusHolds returns true, and each argument reads behind the call as it read before. No conditions.
-/
import Derived.Test.YtccimkmlbcgekaaGreatRows
import Derived.Test.YtccimkmlbcgekaaGreatKA01
import Derived.Test.YtccimkmlbcgekaaGreatKA36
import Derived.Test.YtccimkmlbcgekaaGreatKA37
import Derived.Test.YtccimkmlbcgekaaGreatKA12
namespace Go.Proofs.YtccimkmlbcgekaaGreat.busHolds
open Go.ChangeShapes Go.WideShapes Go.ChangeAt Go.RowKit
open Go.ChangeMaps (open_string)

set_option linter.unusedVariables false
set_option linter.unusedSimpArgs false
set_option maxRecDepth 100000 in
set_option maxHeartbeats 8000000 in
theorem walk {W : World} (A : Option Addr) (n c : Nat) (z : Nat → Int) (hnc : n ≤ c) (hm : c ≤ maxLen) (R : IRow W .u8 A n z) (N : A = none → n = 0 ∧ c = 0) (Y : c ≤ 140737488355328) (a : Int) (wa : (Lit.int .u32 a).wf = true) (v : Int) (wv : (Lit.int .u8 v).wf = true) :
    Calls Tryz.prog 5 #[.slice A n c, .int .u32 a, .int .u8 v] W fun e w' => e = .returned (.bool true) ∧ Below W.heap.size W w' := by
  obtain ⟨a0, a1⟩ := bounds_u32 wa
  obtain ⟨v0, v1⟩ := bounds_u8 wv
  have HR := Lib.hid R
  have HN := Lib.hid N
  clear R N wa wv hm
  go_enter Tryz.func5, Tryz.ntmps5
  go_wp2_with fail
  refine (live19 _).mono ?_
  rintro e w1 ⟨rfl, b1⟩
  have HB1 := Lib.hid b1
  clear b1
  go_wp2_with fail
  refine (hnew_none _).mono ?_
  rintro e w2 ⟨p, b, rfl, hg2, hp2, b2⟩
  have HB2 := Lib.hid (HB1.out.trans (b2.mono HB1.out.size))
  have HP2 := Lib.hid hp2
  have hpl : W.heap.size ≤ p ∧ W.heap.size ≤ b.v ∧ W.heap.size ≤ b.c ∧ W.heap.size ≤ b.p := by have := HB1.out.size; omega
  clear hp2 b2 hg2
  go_upto_region 4 with fail
  have hb3 : Below W.heap.size W (w2.alloc (.cells #[.int .i64 0, .int .i64 0] 34)) := HB2.out.alloc HB2.out.size _
  have hp3 : HP (w2.alloc (.cells #[.int .i64 0, .int .i64 0] 34)) p d0 b Hp.new := HP2.out.kp0 ((Kp.refl _ _).alloc _)
  have b23 : Below w2.heap.size w2 (w2.alloc (.cells #[.int .i64 0, .int .i64 0] 34)) := (Below.refl _ _).alloc (Nat.le_refl _) _
  generalize w2.heap.size = gf at *
  generalize World.alloc w2 _ = w3 at *
  have HB3 := Lib.hid hb3
  have HP3 := Lib.hid hp3
  clear hb3 hp3 HB2 HP2
  go_wp2_with fail
  refine (bnew_any HP3.out HN.out (by omega) (IRow.keep HR.out HB3.out) 9).mono ?_
  rintro e w5 r5
  obtain ⟨g, Q, rv, rfl, t5, -, -⟩ := BT.new HB3.out HB3.out.size hpl r5
  have T0 := Lib.hid t5
  have hs0 : (Bs.new rv n z Hp.new 9).room 0 ∧ (Bs.new rv n z Hp.new 9).left = 9 ∧ (Bs.new rv n z Hp.new 9).f = fun _ => 0 := ⟨room_new, rfl, rfl⟩
  obtain ⟨s, hs⟩ : ∃ s, Bs.new rv n z Hp.new 9 = s := ⟨_, rfl⟩
  rw [hs] at T0 hs0
  obtain ⟨rm, lf, hf⟩ := hs0
  have RM := Lib.hid rm
  have LF := Lib.hid lf
  clear t5 r5 HB3 HP3 hpl hs rm lf hf b23
  go_wp2_with fail
  refine (bpeek_any T0.out.u a a0 a1).mono ?_
  obtain ⟨x, hx⟩ : ∃ x, s.pk a = x := ⟨_, rfl⟩
  rw [hx]
  have HX := Lib.hid hx
  rintro e w6 ⟨rfl, b6⟩
  have T1 := Lib.hid (T0.out.on b6)
  clear b6 hx T0
  go_wp2_with fail
  refine (bwrite_some T1.out.u a v 4 a0 a1 v0 v1 (by rw [LF.out]; omega) (by have := RM.out.1; omega) (by have := RM.out.2.1; omega) (Hp.lim_mono RM.out.2.2.1 (by omega)) (by have := RM.out.2.2.2; omega)).mono ?_
  rintro e w7 r
  obtain ⟨Q2, rfl, t, -⟩ := T1.out.go r
  have T2 := Lib.hid t
  clear t r T1
  go_wp2_with fail
  refine (bpeek_any T2.out.u a a0 a1).mono ?_
  obtain ⟨y, hy⟩ : ∃ y, (s.wrS d0 a v 4).pk a = y := ⟨_, rfl⟩
  rw [hy]
  have HY := Lib.hid hy
  rintro e w8 ⟨rfl, b8⟩
  have T3 := Lib.hid (T2.out.on b8)
  clear b8 hy T2
  go_wp2_with fail
  obtain ⟨k, hk⟩ : ∃ k, whereI a = k := ⟨_, rfl⟩
  refine (rwhere_any a _ a0 a1).mono ?_
  rw [hk]
  rintro e w9 ⟨rfl, b9⟩
  have T4 := Lib.hid (T3.out.on b9)
  clear b9 T3
  by_cases k1 : k = 1
  · subst k1
    have hb := ram_bank a a0 hk
    have f1 : (s.wrS d0 a v 4).f = fw s.f (offI a) v := wrS_f_yes hb hk
    have hyv : y = v := by
      rw [← HY.out]
      unfold Bs.pk
      rw [hk, f1]
      show fw s.f (offI a) v (a % 8192).toNat = v
      unfold fw offI
      rw [if_pos (by congr 1; omega)]
    subst hyv
    have R1 := Lib.hid (wrS_room (d := d0) (a := a) (v := y) (kd := 4) RM.out)
    have L1 : Hid ((s.wrS d0 a y 4).left = 8) := Lib.hid (by rw [wrS_left, LF.out]; rfl)
    have F1 := Lib.hid f1
    have HKK := Lib.hid hk
    have HBK := Lib.hid hb
    obtain ⟨o, ho⟩ : ∃ o, a % 8192 = o := ⟨_, rfl⟩
    have o0 : 0 ≤ o ∧ o < 8192 := by omega
    have hom : a.tmod 8192 = o := by rw [Int.tmod_eq_emod_of_nonneg a0, ho]
    have HO := Lib.hid ho
    clear hk hb f1 ho HX HY RM LF
    go_wp2_with fail
    go_loopw [12] (fun i wr => ∃ k : Nat, k ≤ 4 ∧ i = .int .i64 k ∧ ∃ Q t, BT W.heap.size W wr g d0 Q t ∧ t.room (k + 1) ∧ t.left = 8 - k ∧ t.f = fw s.f (offI a) y) (fun i wr => 4 - (intOf i).toNat)
    case atStart => exact ⟨0, by omega, rfl, _, _, T4.out, R1.out, L1.out, F1.out⟩
    case round =>
      obtain ⟨k, hk, rfl, Q5, t, hT, hr, hl, hf⟩ := hrel
      have T5 := Lib.hid hT
      have R5 := Lib.hid hr
      have L5 := Lib.hid hl
      have F5 := Lib.hid hf
      clear hT hr hl hf T4 R1 L1 F1
      by_cases hlt : k < 4
      · have i0 : (k : Int) < 4 := by omega
        have i1 : (0 : Int) ≤ (k : Int) := by omega
        obtain ⟨ai, hai⟩ : ∃ ai, (248 + (k : Int)) * 8192 + o = ai := ⟨_, rfl⟩
        have w1 : IntKind.u32.wrap (248 + (k : Int)) = 248 + (k : Int) := IntWalk.u32_in _ (by omega)
        have w2 : IntKind.u32.wrap ((248 + (k : Int)) * 8192) = (248 + (k : Int)) * 8192 := IntWalk.u32_in _ (by omega)
        have w3 : IntKind.u32.wrap ((248 + (k : Int)) * 8192 + o) = ai := by rw [hai]; exact IntWalk.u32_in _ (by omega)
        have ab : 0 ≤ ai ∧ ai ≤ 4294967295 := by omega
        have hwi : whereI ai = 1 := where_ramB ai (by omega) (by omega)
        have hbi : bankI ai ≠ 255 := ram_bank ai ab.1 hwi
        have hrv : t.rdV d0 ai = y := by
          rw [rdV_ram hbi hwi, F5.out]
          unfold fw offI
          rw [if_pos (by congr 1; have := HO.out; omega)]
        have HRV := Lib.hid hrv
        have HAI := Lib.hid hai
        have nn : (y != y) = false := by simp
        clear hwi hbi hrv
        go_wp2_with fail
        try rw [HAI.out]
        refine (bread_some T5.out.u ai 3 ab.1 ab.2 (by rw [L5.out]; omega) (by have := R5.out.1; omega) (by have := R5.out.2.1; omega) (Hp.lim_mono R5.out.2.2.1 (by omega)) (by have := R5.out.2.2.2; omega)).mono ?_
        rw [HRV.out]
        rintro e x r
        obtain ⟨Q6, rfl, t6, -⟩ := T5.out.go r
        have T6 := Lib.hid t6
        clear t6 r T5
        go_wp2_with fail
        go_roundw
        case rel => exact ⟨k + 1, by omega, by go_num, Q6, _, T6.out, rdS_room R5.out, by rw [rdS_f.2, L5.out]; omega, by rw [rdS_f.1, F5.out]⟩
        case measure => simp [intOf]; omega
      · obtain rfl : k = 4 := by omega
        have i0 : ¬ ((4 : Nat) : Int) < 4 := by omega
        have nn : (y == y) = true := by simp
        go_wp2_with fail
        go_ret
        exact ⟨rfl, T5.out.bw⟩
  · have n1 : (k != 1) = true := by simpa using k1
    have hxy : y = x := by rw [← HX.out, ← HY.out]; exact wrS_pk_no a (by rw [hk]; exact k1)
    subst hxy
    have nn : (y == y) = true := by simp
    clear HX HY
    go_wp2_with fail
    go_ret
    exact ⟨rfl, T4.out.bw⟩

theorem own : ownKnob Tryz.prog.godebug = none := by kernel_rfl
theorem laidOut : laidOutB Tryz.prog = true := by kernel_rfl
set_option maxRecDepth 100000 in
theorem lifted (os : Os) (started : os.Started) (H : Type) (enc : TypeId × Value → H) :
    ReturnsInHanded {} Tryz.checked os 5 .any (Rows.busHoldsSpec.pre6 enc Tryz.prog Tryz.f5 Rows.busHoldsRow.domain false) (Rows.busHoldsSpec.post enc Tryz.prog Tryz.f5 false true false false) := by
  refine returnsInHanded_of_change_sized (C := Tryz.checked) own started (by kernel_rfl) Tryz.func5
    (ChangeSpec.witness6 (enc := enc) (C := Tryz.checked) false ⟨#[], #[.slice none 0 0, .int .u32 0, .int .u8 0], []⟩ 8 (by kernel_rfl) (by kernel_rfl) (by kernel_rfl) (by kernel_rfl)) ?_
  intro W base args ds gs before hval0 hW _ hsz0 _
  have hval : ∀ (j : Nat) t v, Tryz.f5.params[j]? = some t → args[j]? = some v → Value.okWide Tryz.prog W .any base t v := hval0
  have hW' := hW
  obtain ⟨p, q, hA0, hV, rfl, _, _⟩ := hW
  have hA : DataW.TrodAll enc Tryz.prog W 0 (fun _ => true) true Tryz.f5.params.toList args.toList ds p := hA0
  rw [Tryz.params5] at hA hval
  have hsz : (DataW.weightsEach Tryz.prog (Tryz.f5.params.toList ++ []) (ds ++ gs)).all (· ≤ reachBytes) = true := hsz0
  rw [Tryz.params5] at hsz
  clear hsz0
  obtain ⟨v0, vs0, d0, ds0, p0, q0, hargs, rfl, rfl, h0, r0⟩ := trodAll_cons hA
  obtain ⟨v1, vs1, d1, ds1, p1, q1, rfl, rfl, rfl, h1, r1⟩ := trodAll_cons r0
  obtain ⟨v2, vs2, d2, ds2, p2, q2, rfl, rfl, rfl, h2, r2⟩ := trodAll_cons r1
  obtain ⟨rfl, rfl, rfl⟩ := trodAll_nil r2
  obtain rfl : args = #[v0, v1, v2] := by cases args; simp_all
  obtain ⟨rfl, rfl⟩ := trodVars_none hV
  obtain ⟨A0, n0, c0, z0, rfl, g0, m0, R0, X0, N0⟩ := slice_ints_sized2 Tryz.underlying22 Tryz.underlying5 (by kernel_rfl) (hval 0 22 v0 rfl rfl) h0
  have Y0 := reach_of hsz (j := 0) (t := 22) rfl rfl Tryz.underlying22 (by kernel_rfl) X0
  obtain ⟨a1, rfl, rfl, rfl, w1⟩ := open_int Tryz.underlying56 (hval 1 56 v1 rfl rfl) h1
  obtain ⟨a2, rfl, rfl, rfl, w2⟩ := open_int Tryz.underlying5 (hval 2 5 v2 rfl rfl) h2
  clear hA0 hval0
  refine (walk A0 n0 c0 z0 g0 m0 R0 N0 Y0 a1 w1 a2 w2).mono fun e W' ⟨he, hg⟩ => ?_
  subst he
  exact ⟨_, rfl, law_post rfl Tryz.underlying4 laidOut (by kernel_rfl) rfl hW' rfl hg⟩

theorem over : Rows.busHoldsRow.holds Tryz.pinned (OpenSpec.ofChange Rows.busHoldsSpec) :=
  OpenClaim.holds_of_wide 5 Tryz.f5 rfl rfl rfl rfl rfl rfl rfl ⟨rfl, rfl, rfl, rfl, rfl⟩ rfl rfl rfl rfl rfl (by kernel_rfl) Tryz.func5 (by kernel_rfl)
    (of_decide_eq_true (by kernel_rfl)) (by unfold Func.isWrapper; first | (rw [if_pos (by decide +kernel)]; kernel_rfl) | (rw [if_neg (by decide +kernel)]; exact ⟨rfl, rfl⟩))
    (fun os started H enc _ => lifted os started H enc)

theorem proved : Rows.BusHoldsSaid := over
#print axioms proved
end Go.Proofs.YtccimkmlbcgekaaGreat.busHolds
