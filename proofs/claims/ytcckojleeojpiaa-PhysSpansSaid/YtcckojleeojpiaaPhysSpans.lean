/-
  For every input PhysSpans returns true, and each argument reads behind the call as it read before. No conditions.
-/
import Derived.Test.YtcckojleeojpiaaRows
import Derived.Test.YtcckojleeojpiaaG3
import Derived.Test.YtcckojleeojpiaaPhys7
import Derived.Test.YtcckojleeojpiaaMS
import Derived.Deep.Cut
import Derived.Deep.CutRange
namespace Go.Proofs.Ytcckojleeojpiaa.physSpans
open Go.ChangeShapes Go.WideShapes Go.ChangeAt Go.RowKit
open Go.ChangeMaps (open_string)

set_option linter.unusedVariables false
set_option maxRecDepth 100000 in
set_option maxHeartbeats 8000000 in
theorem walk (x : Int) (wx : (Lit.int .u8 x).wf = true) (a : Int) (wa : (Lit.int .u32 a).wf = true) (w : World) :
    Calls Try.prog 6 #[.int .u8 x, .int .u32 a] w fun e w' => e = .returned (.bool true) ∧ Below w.heap.size w w' := by
  obtain ⟨a0, a1⟩ := bounds_u32 wa
  obtain ⟨x0, x1⟩ := bounds_u8 wx
  clear wa wx
  have hB := Below.refl w.heap.size w
  have ML := spanTo_len x 11
  have RO := Lib.hid (row_ok x x0)
  have IS := Lib.hid (inTo_succ x (a % 2097152))
  have IA := Lib.hid (in_all x a)
  have RC := Lib.hid (rowC_at (spanTo x 11))
  go_enter Try.func6, Try.ntmps6
  go_wp2_with (go_at_call 12; refine (live_any _).mono ?_; rintro e w1 ⟨rfl, hb⟩; have hB := hB.trans (hb.mono hB.size))
  refine (span_any _ _ x0 x1).mono ?_
  rintro e w2 ⟨v, rfl, own, hb⟩
  have hB := hB.trans (hb.mono hB.size)
  have hv : ∃ A c, v = .slice A (spanTo x 11).length c ∧ (0 < (spanTo x 11).length → ∃ g, A = some ⟨g, 0, none⟩ ∧ g < w2.heap.size ∧ ∀ k, k < (spanTo x 11).length → w2.cell? ⟨g, k * 2, none⟩ = some (.int .u32 (rowAt x k).1) ∧ w2.cell? ⟨g, k * 2 + 1, none⟩ = some (.int .u32 (rowAt x k).2)) := by
    rcases own.2 with ⟨rfl, h0⟩ | ⟨g, cap, cur, rfl, h⟩
    · rw [h0]; exact ⟨none, 0, rfl, fun h => absurd h (by omega)⟩
    · refine ⟨_, _, rfl, fun h => ⟨g, rfl, (own.lt g rfl).2, fun k hk => ?_⟩⟩
      have c1 := own.cells (g := g) rfl _ _ (RC.out k hk).1
      have c2 := own.cells (g := g) rfl _ _ (RC.out k hk).2
      rw [add_zero_block] at c1 c2
      exact ⟨c1, c2⟩
  obtain ⟨A, c, rfl, hA⟩ := hv
  clear own hb
  generalize hm : (spanTo x 11).length = m at *
  have HA := Lib.hid hA
  clear hA hm
  go_wp2_with fail
  go_loopw [6, 7] (fun b i wr => ∃ k : Nat, k ≤ m ∧ i = .int .i64 k ∧ b = .bool (inTo x (a % 2097152) k) ∧ Below w2.heap.size w2 wr) (fun _ i _ => m - (intOf i).toNat)
  case atStart => exact ⟨0, by omega, rfl, rfl, Below.refl _ _⟩
  case round =>
    obtain ⟨k, hk, rfl, rfl, hC⟩ := hrel
    have zC := hC.size
    by_cases hlt : k < m
    · obtain ⟨g, rfl, hg, hcs⟩ := HA.out (by omega)
      have c1 := (hC.cell (p := ⟨g, k * 2, none⟩) hg).trans (hcs k hlt).1
      have c2 := (hC.cell (p := ⟨g, k * 2 + 1, none⟩) hg).trans (hcs k hlt).2
      obtain ⟨r1, r2, r3, r4, r5, r6, r7, r8⟩ := RO.out k hlt
      have IS' := IS.out k hlt
      obtain ⟨⟨f, n⟩, hp⟩ : ∃ p, rowAt x k = p := ⟨_, rfl⟩
      rw [hp] at c1 c2 r1 r2 r3 r4 r5 r6 r7 r8 IS'
      simp only at c1 c2 r1 r2 r3 r4 r5 r6 r7 r8 IS'
      have HI := Lib.hid IS'
      have R4 := Lib.hid r4
      have R5 := Lib.hid r5
      have R6 := Lib.hid r6
      have R7 := Lib.hid r7
      clear IS' r4 r5 r6 r7 hp
      have d1 : decide (n < 1) = false := by simp; omega
      have d2 : decide (2097152 ≤ f) = false := by simp; omega
      have d3 : IntKind.u32.wrap (2097152 - f) = 2097152 - f := IntWalk.u32_in _ (by omega)
      have d4 : decide (2097152 - f < n) = false := by simp; omega
      have q1 : IntKind.u32.wrap (f + n) = f + n := IntWalk.u32_in _ (by omega)
      have q2 : IntKind.u32.wrap (f + n - 1) = f + n - 1 := IntWalk.u32_in _ (by omega)
      go_wp2_with fail
      go_quiet (fail)
      go_upto_region 9 with fail
      go_cut [63] from 15 to 111 (fun s wx => s = .bool false ∧ Below w2.heap.size w2 wx)
      case first =>
        rcases k with _ | j
        · clear r8
          have d5 : decide ((0 : Int) < ((0 : Nat) : Int)) = false := by decide
          have d6 : decide ((0 : Int) < 0) = false := by decide
          go_quiet (fail)
          go_wp2_with fail
          go_meet
          exact ⟨rfl, below_drewN (below_drewN hC _) _⟩
        · obtain ⟨c3', c4'⟩ := hcs j (by omega)
          have c3 := (hC.cell (p := ⟨g, j * 2, none⟩) hg).trans c3'
          have c4 := (hC.cell (p := ⟨g, j * 2 + 1, none⟩) hg).trans c4'
          have r8' := r8 (by omega)
          simp only [Nat.add_sub_cancel] at r8'
          have rj := RO.out j (by omega)
          have rj1 := rj.1
          have rj2 := rj.2.1
          have rj3 := rj.2.2.1
          generalize (rowAt x j).1 = f' at *
          generalize (rowAt x j).2 = n' at *
          have d5 : decide ((0 : Int) < (j : Int) + 1) = true := decide_eq_true (by omega)
          have d6 : IntKind.i64.wrap ((j : Int) + 1 - 1) = j := by rw [show (j : Int) + 1 - 1 = j by omega]; exact IntWalk.i64_in _ (by omega)
          have d7 : IntKind.u32.wrap (f' + n') = f' + n' := IntWalk.u32_in _ (by omega)
          have d8 : decide (f ≤ f' + n') = false := by simp; omega
          clear r8 c3' c4' rj hcs r8'
          go_quiet (fail)
          go_wp2_with fail
          go_meet
          exact ⟨rfl, below_drewN (below_drewN hC _) _⟩
      case rest =>
        obtain ⟨rfl, hC2⟩ := hcut
        have zC2 := hC2.size
        clear r8 hcs c1 c2 hC zC
        go_upto_region 12 with fail
        go_cut [98] from 15 to 111 (fun s wx => s = .bool false ∧ Below w2.heap.size w2 wx)
        case first =>
          go_wp2_with fail
          refine (asV (rwhere_any f _ (by omega) (by omega)) (by rw [R4.out])).mono ?_; rintro e w3 ⟨rfl, hb3⟩
          have hC3 := hC2.trans (hb3.mono zC2)
          have z3 := hC3.size
          go_wp2_with fail
          refine (asV (rwhere_any (f + n - 1) _ (by omega) (by omega)) (by rw [R5.out])).mono ?_; rintro e w4 ⟨rfl, hb4⟩
          have hC4 := hC3.trans (hb4.mono z3)
          have z4 := hC4.size
          clear hC3 hb3 hb4
          by_cases e1 : 0 < f
          all_goals by_cases e2 : f + n < 2097152
          · have r6 := R6.out e1
            have q3 : IntKind.u32.wrap (f - 1) = f - 1 := IntWalk.u32_in _ (by omega)
            have r7 := R7.out e2
            go_wp2_with fail
            refine (rwhere_any (f - 1) _ (by omega) (by omega)).mono ?_; rintro e w5 ⟨rfl, hb5⟩
            have hC5 := hC4.trans (hb5.mono z4)
            have z5 := hC5.size
            go_wp2_with fail
            refine (rwhere_any (f + n) _ (by omega) (by omega)).mono ?_; rintro e w6 ⟨rfl, hb6⟩
            have hC6 := hC5.trans (hb6.mono z5)
            go_wp2_with fail
            go_meet
            exact ⟨rfl, hC6⟩
          · have r6 := R6.out e1
            have q3 : IntKind.u32.wrap (f - 1) = f - 1 := IntWalk.u32_in _ (by omega)
            have g2 : 2097152 ≤ f + n := by omega
            clear e2
            go_wp2_with fail
            refine (rwhere_any (f - 1) _ (by omega) (by omega)).mono ?_; rintro e w5 ⟨rfl, hb5⟩
            have hC5 := hC4.trans (hb5.mono z4)
            have z5 := hC5.size
            go_wp2_with fail
            go_meet
            exact ⟨rfl, hC5⟩
          · have g1 : f ≤ 0 := by omega
            clear e1
            have r7 := R7.out e2
            go_wp2_with fail
            refine (rwhere_any (f + n) _ (by omega) (by omega)).mono ?_; rintro e w6 ⟨rfl, hb6⟩
            have hC6 := hC4.trans (hb6.mono z4)
            go_wp2_with fail
            go_meet
            exact ⟨rfl, hC6⟩
          · have g1 : f ≤ 0 := by omega
            clear e1
            have g2 : 2097152 ≤ f + n := by omega
            clear e2
            go_wp2_with fail
            go_meet
            exact ⟨rfl, hC4⟩

        case rest =>
          obtain ⟨rfl, hD⟩ := hcut
          have y0 : 0 ≤ a % 2097152 := by omega
          have y1 : a % 2097152 < 2097152 := by omega
          clear hC2 zC2 d1 d2 d3 d4 q2 R4 R5 R6 R7
          generalize inTo x (a % 2097152) k = b0 at *
          cases b0
          · by_cases t1 : f ≤ a % 2097152
            · by_cases t2 : a % 2097152 < f + n
              · have T : Hid (inTo x (a % 2097152) (k + 1) = true) := Lib.hid (by rw [HI.out, decide_eq_true t1, decide_eq_true t2]; rfl)
                clear HI
                go_wp2_with fail
                go_roundw
                case rel => exact ⟨k + 1, by omega, by go_num, by rw [T.out], hD⟩
                case measure => simp [intOf]; omega
              · have T : Hid (inTo x (a % 2097152) (k + 1) = false) := Lib.hid (by rw [HI.out, decide_eq_true t1, decide_eq_false t2]; rfl)
                have t2' : decide (a % 2097152 < f + n) = false := decide_eq_false t2
                clear HI t2
                go_wp2_with fail
                go_roundw
                case rel => exact ⟨k + 1, by omega, by go_num, by rw [T.out], hD⟩
                case measure => simp [intOf]; omega
            · have T : Hid (inTo x (a % 2097152) (k + 1) = false) := Lib.hid (by rw [HI.out, decide_eq_false t1]; rfl)
              have t1' : a % 2097152 < f := by omega
              clear HI t1
              go_wp2_with fail
              go_roundw
              case rel => exact ⟨k + 1, by omega, by go_num, by rw [T.out], hD⟩
              case measure => simp [intOf]; omega
          · have T : Hid (inTo x (a % 2097152) (k + 1) = true) := Lib.hid (by rw [HI.out]; rfl)
            clear HI
            go_wp2_with fail
            go_roundw
            case rel => exact ⟨k + 1, by omega, by go_num, by rw [T.out], hD⟩
            case measure => simp [intOf]; omega
    · obtain rfl : k = m := by omega
      have hE := IA.out
      rw [hE]
      go_wp2_with (go_at_call 19; refine (rwhere_any _ _ a0 a1).mono ?_; rintro e w3 ⟨rfl, hb3⟩)
      go_ret
      exact ⟨by simp, hB.trans ((hC.trans (hb3.mono zC)).mono hB.size)⟩

theorem own : ownKnob Try.prog.godebug = none := by kernel_rfl
theorem laidOut : laidOutB Try.prog = true := by kernel_rfl
set_option maxRecDepth 100000 in
theorem lifted (os : Os) (started : os.Started) (H : Type) (enc : TypeId × Value → H) :
    ReturnsInHanded {} Try.checked os 6 .any (Rows.physSpansSpec.pre6 enc Try.prog Try.f6 Rows.physSpansRow.domain false) (Rows.physSpansSpec.post enc Try.prog Try.f6 false true false false) := by
  refine returnsInHanded_of_change (C := Try.checked) own started (by kernel_rfl) Try.func6
    (ChangeSpec.witness6 (enc := enc) (C := Try.checked) false ⟨#[], #[.int .u8 0, .int .u32 0], []⟩ 8 (by kernel_rfl) (by kernel_rfl) (by kernel_rfl) (by kernel_rfl)) ?_
  intro W base args ds gs before hval0 hW _ _
  have hval : ∀ (j : Nat) t v, Try.f6.params[j]? = some t → args[j]? = some v → Value.okWide Try.prog W .any base t v := hval0
  have hW' := hW
  obtain ⟨p, q, hA0, hV, rfl, _, _⟩ := hW
  have hA : DataW.TrodAll enc Try.prog W 0 (fun _ => true) true Try.f6.params.toList args.toList ds p := hA0
  rw [Try.params6] at hA hval
  obtain ⟨v0, vs0, d0, ds0, p0, q0, hargs, rfl, rfl, h0, r0⟩ := trodAll_cons hA
  obtain ⟨v1, vs1, d1, ds1, p1, q1, rfl, rfl, rfl, h1, r1⟩ := trodAll_cons r0
  obtain ⟨rfl, rfl, rfl⟩ := trodAll_nil r1
  obtain rfl : args = #[v0, v1] := by cases args; simp_all
  obtain ⟨rfl, rfl⟩ := trodVars_none hV
  obtain ⟨a0, rfl, rfl, rfl, w0⟩ := open_int Try.underlying5 (hval 0 5 v0 rfl rfl) h0
  obtain ⟨a1, rfl, rfl, rfl, w1⟩ := open_int Try.underlying22 (hval 1 22 v1 rfl rfl) h1
  clear hA0 hval0
  refine (walk a0 w0 a1 w1 W).mono fun e W' ⟨he, hg⟩ => ?_
  subst he
  exact ⟨_, rfl, law_post rfl Try.underlying4 laidOut (by kernel_rfl) rfl hW' rfl hg⟩

theorem over : Rows.physSpansRow.holds Try.pinned (OpenSpec.ofChange Rows.physSpansSpec) :=
  OpenClaim.holds_of_wide 6 Try.f6 rfl rfl rfl rfl rfl rfl rfl ⟨rfl, rfl, rfl, rfl, rfl⟩ rfl rfl rfl rfl rfl (by kernel_rfl) Try.func6 (by kernel_rfl)
    (of_decide_eq_true (by kernel_rfl)) (by unfold Func.isWrapper; first | (rw [if_pos (by decide +kernel)]; kernel_rfl) | (rw [if_neg (by decide +kernel)]; exact ⟨rfl, rfl⟩))
    (fun os started H enc _ => lifted os started H enc)

theorem proved : Rows.PhysSpansSaid := over
#print axioms proved
end Go.Proofs.Ytcckojleeojpiaa.physSpans
