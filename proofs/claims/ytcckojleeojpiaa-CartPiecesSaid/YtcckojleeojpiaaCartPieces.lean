/-
  For every input CartPieces returns true, and each argument reads behind the call as it read before. No conditions.
-/
import Derived.Test.YtcckojleeojpiaaRows
import Derived.Test.YtcckojleeojpiaaG3
import Derived.Test.YtcckojleeojpiaaCart16
import Derived.Test.YtcckojleeojpiaaCart11
namespace Go.Proofs.Ytcckojleeojpiaa.cartPieces
open Go.ChangeShapes Go.WideShapes Go.ChangeAt Go.RowKit
open Go.ChangeMaps (open_string)

set_option linter.unusedVariables false
set_option maxRecDepth 100000 in
set_option maxHeartbeats 4000000 in
theorem walk {W : World} (A : Option Addr) (n c : Nat) (z : Nat → Int) (hnc : n ≤ c) (hc : c ≤ maxLen) (R : IRow W .u8 A n z) :
    Calls Try.prog 8 #[.slice A n c] W fun e w' => e = .returned (.bool true) ∧ Below W.heap.size W w' := by
  have HM := Lib.hid (show n ≤ maxLen by omega)
  have HC := Lib.hid hc
  have HNC := Lib.hid hnc
  clear hc hnc
  go_enter Try.func8, Try.ntmps8
  go_wp2_with fail
  refine (live04_any _).mono ?_
  rintro e w1 ⟨rfl, hb1⟩
  have R1 := R.keep hb1
  by_cases hn : n ≤ 40000
  · have i1 : ¬ (40000 : Int) < (n : Int) := by omega
    rcases imgE_or n with hE | hE
    · obtain ⟨n0, n1, n2⟩ := imgE_pages hE
      go_wp2_with fail
      refine (pieces_any A n c z HNC.out n2 hE R1).mono ?_
      rintro e w2 ⟨⟨v, ps, rfl, own, PL2⟩, hb2⟩
      obtain ⟨Ap, cap, rfl, PR2⟩ := prow_any own PL2
      have LN := runs_len z n
      have GOOD := Lib.hid (runs_good PL2)
      have LAID := Lib.hid (laid_runs PL2)
      have R2 := R1.keep hb2
      have HPL := Lib.hid PL2
      clear own PL2
      generalize hLm : (runs z n).length = m at *
      have HLm := Lib.hid hLm
      clear hLm
      have MK := Lib.hid (make_any ((n : Int) / 8192) n Ap m cap ps w2 (decide_eq_true (by omega)) (by omega) (by unfold maxLen; omega) PR2)
      have hB2 := hb1.trans (hb2.mono hb1.size)
      go_wp2_with (go_at_call 35; refine (asV (rcheck_any _ _ _ _ HM.out) (by rw [hE])).mono ?_; rintro e w' ⟨rfl, rfl⟩)
      refine MK.out.mono ?_
      clear MK
      rintro e w3 ⟨hb3, ⟨j, hj, hbad, hgd, rfl⟩ | ⟨hall, g, C, rfl, hg, hG, hA⟩⟩
      · exact absurd (GOOD.out j hj) hbad
      · have hB3 := hB2.trans (hb3.mono hB2.size)
        have RK : Below w2.heap.size w2 (w3.alloc (.cells #[.int .i64 0, .int .i64 0] 44)) := hb3.alloc hb3.size _
        have R3 := R2.keep RK
        have PR3 := PR2.keep RK
        have hF3 := Blk.new w3 44 #[.int .i64 0, .int .i64 0]
        have hG3 := hG.alloc (.cells #[.int .i64 0, .int .i64 0] 44)
        have hB4 := hB3.alloc hB3.size (.cells #[.int .i64 0, .int .i64 0] 44)
        clear hall hb2 hb3 hG R1 R2 PR2 RK R
        go_wp2_with fail
        refine (refPieces_any A n c z HNC.out HC.out n2 R3).mono ?_
        rintro e w4 ⟨⟨v4, qs, rfl, own4, PL4⟩, hb4⟩
        obtain ⟨Aq, capq, rfl, PR4⟩ := prow_any own4 PL4
        have PR5 := PR3.keep hb4
        have R4 := R3.keep hb4
        have hF4 := hF3.below hb4 hF3.lt
        have hG4 := hG3.below hb4 hG3.lt
        have hB5 := hB4.trans (hb4.mono hB4.size)
        have QQ : ∀ i, i < m → (qs i).at_ = (ps i).at_ ∧ (qs i).n = (ps i).n ∧ (qs i).z = (ps i).z := fun i hi => by
          obtain ⟨a1, a2, a3, _⟩ := HPL.out i (by rw [HLm.out]; exact hi)
          obtain ⟨b1, b2, b3, _⟩ := PL4 i (by rw [HLm.out]; exact hi)
          exact ⟨by rw [a1, b1], by rw [a2, b2], by rw [a3, b3]⟩
        have HQQ := Lib.hid QQ
        rw [HLm.out] at PR4 ⊢
        clear own4 PL4 hb4 QQ PR3 R3 hF3 hG3
        go_wp2_with fail
        refine (rsameP_yes Ap Aq m cap capq ps qs (by omega) PR5 PR4 HQQ.out).mono ?_
        rintro e w5 ⟨rfl, hb5⟩
        have R5 := R4.keep hb5
        have PR6 := PR5.keep hb5
        have hF5 := hF4.below hb5 hF4.lt
        have hG5 := hG4.below hb5 hG4.lt
        have hB6 := hB5.trans (hb5.mono hB5.size)
        have f0 := hF5.cell 0
        have f1 := hF5.cell 1
        simp only [List.getElem?_toArray, List.getElem?_cons_zero, List.getElem?_cons_succ] at f0 f1
        have I0 := IRow.of_blk hG5 hA (laid_wf (fun i hi => PR6.ok i hi) m (Nat.le_refl _))
        have I1 : IRow w5 .u8 (some ⟨g, 0, none⟩) n z := fun i hi => by
          rw [← LAID.out i hi]; exact I0 i hi
        clear I0 hb5 R4 PR5 PR4 hF4 hG4
        go_wp2_with fail
        refine (same_yes (some ⟨g, 0, none⟩) A n n c z HM.out I1 R5).mono ?_
        rintro e w6 ⟨rfl, hb6⟩
        go_wp2_with fail
        go_ret
        exact ⟨by simp, hB6.trans (hb6.mono hB6.size)⟩
    · go_wp2_with (first | (go_at_call 34; refine (pieces_bad _ _ _ HM.out hE).mono ?_; rintro e w' ⟨rfl, rfl⟩) | (go_at_call 35; refine (asV (rcheck_any _ _ _ _ HM.out) (by rw [hE])).mono ?_; rintro e w' ⟨rfl, rfl⟩))
      go_ret
      exact ⟨rfl, hb1⟩
  · have i1 : (40000 : Int) < (n : Int) := by omega
    go_wp2_with fail
    go_ret
    exact ⟨rfl, hb1⟩

theorem own : ownKnob Try.prog.godebug = none := by kernel_rfl
theorem laidOut : laidOutB Try.prog = true := by kernel_rfl
set_option maxRecDepth 100000 in
theorem lifted (os : Os) (started : os.Started) (H : Type) (enc : TypeId × Value → H) :
    ReturnsInHanded {} Try.checked os 8 .any (Rows.cartPiecesSpec.pre6 enc Try.prog Try.f8 Rows.cartPiecesRow.domain false) (Rows.cartPiecesSpec.post enc Try.prog Try.f8 false true false false) := by
  refine returnsInHanded_of_change (C := Try.checked) own started (by kernel_rfl) Try.func8
    (ChangeSpec.witness6 (enc := enc) (C := Try.checked) false ⟨#[], #[.slice none 0 0], []⟩ 8 (by kernel_rfl) (by kernel_rfl) (by kernel_rfl) (by kernel_rfl)) ?_
  intro W base args ds gs before hval0 hW _ _
  have hval : ∀ (j : Nat) t v, Try.f8.params[j]? = some t → args[j]? = some v → Value.okWide Try.prog W .any base t v := hval0
  have hW' := hW
  obtain ⟨p, q, hA0, hV, rfl, _, _⟩ := hW
  have hA : DataW.TrodAll enc Try.prog W 0 (fun _ => true) true Try.f8.params.toList args.toList ds p := hA0
  rw [Try.params8] at hA hval
  obtain ⟨v0, vs0, d0, ds0, p0, q0, hargs, rfl, rfl, h0, r0⟩ := trodAll_cons hA
  obtain ⟨rfl, rfl, rfl⟩ := trodAll_nil r0
  obtain rfl : args = #[v0] := by cases args; simp_all
  obtain ⟨rfl, rfl⟩ := trodVars_none hV
  obtain ⟨A0, n0, c0, z0, rfl, g0, m0, R0⟩ := slice_ints Try.underlying42 Try.underlying5 (by kernel_rfl) (hval 0 42 v0 rfl rfl) h0
  clear hA0 hval0
  refine (walk A0 n0 c0 z0 g0 m0 R0).mono fun e W' ⟨he, hg⟩ => ?_
  subst he
  exact ⟨_, rfl, law_post rfl Try.underlying4 laidOut (by kernel_rfl) rfl hW' rfl hg⟩

theorem over : Rows.cartPiecesRow.holds Try.pinned (OpenSpec.ofChange Rows.cartPiecesSpec) :=
  OpenClaim.holds_of_wide 8 Try.f8 rfl rfl rfl rfl rfl rfl rfl ⟨rfl, rfl, rfl, rfl, rfl⟩ rfl rfl rfl rfl rfl (by kernel_rfl) Try.func8 (by kernel_rfl)
    (of_decide_eq_true (by kernel_rfl)) (by unfold Func.isWrapper; first | (rw [if_pos (by decide +kernel)]; kernel_rfl) | (rw [if_neg (by decide +kernel)]; exact ⟨rfl, rfl⟩))
    (fun os started H enc _ => lifted os started H enc)

theorem proved : Rows.CartPiecesSaid := over
#print axioms proved
end Go.Proofs.Ytcckojleeojpiaa.cartPieces
