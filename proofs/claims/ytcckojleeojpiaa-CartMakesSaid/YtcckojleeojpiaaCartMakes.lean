/-
  For every input CartMakes returns true, and each argument reads behind the call as it read before. No conditions.
-/
import Derived.Test.YtcckojleeojpiaaRows
import Derived.Test.YtcckojleeojpiaaG3
import Derived.Test.YtcckojleeojpiaaCart11
namespace Go.Proofs.Ytcckojleeojpiaa.cartMakes
open Go.ChangeShapes Go.WideShapes Go.ChangeAt Go.RowKit
open Go.ChangeMaps (open_string)

set_option linter.unusedVariables false
theorem ne_same (x : Int) : (x == x) = true := by simp
set_option maxRecDepth 100000 in
set_option maxHeartbeats 4000000 in
theorem walk {W : World} (n : Int) (wn : (Lit.int .i64 n).wf = true) (A : Option Addr) (m c : Nat) (ps : Nat → Pc) (hmc : m ≤ c) (hc : c ≤ maxLen) (R : PRow W A m ps) :
    Calls Try.prog 7 #[.int .i64 n, .slice A m c] W fun e w' => e = .returned (.bool true) ∧ Below W.heap.size W w' := by
  have hm : m ≤ maxLen := by omega
  have HM := Lib.hid hm
  clear wn hc hmc hm
  go_enter Try.func7, Try.ntmps7
  go_wp2_with fail
  refine (live04_any _).mono ?_
  rintro e w1 ⟨rfl, hb1⟩
  have R1 := R.keep hb1
  rcases Bool.eq_false_or_eq_true (smallB ps m) with hs | hs
  · have HS := Lib.hid hs
    clear hs
    go_wp2_with fail
    refine (asV (small_any A m c ps HM.out R1) (by rw [HS.out])).mono ?_; rintro e w' ⟨rfl, rfl⟩
    rcases Bool.eq_false_or_eq_true (mayB n) with hp | hp
    · have hn : 1 ≤ n ∧ n ≤ 128 := of_decide_eq_true hp
      obtain ⟨S, hS⟩ : ∃ S : Nat, (S : Int) = n * 8192 := ⟨(n * 8192).toNat, by omega⟩
      have MK := Lib.hid (make_any n S A m c ps w1 hp hS HM.out R1)
      have WFL := Lib.hid (laid_wf (fun i hi => R1.ok i hi) m (Nat.le_refl _))
      have s1 : S ≤ 1048576 := by omega
      have RM := Lib.hid (fun w (R : PRow w A m ps) => rmake_any n S A m c ps w hp hS HM.out R)
      clear hp hS hn
      go_wp2_with fail
      refine MK.out.mono ?_
      clear MK
      rintro e w2 ⟨hb, ⟨j, hj, hbad, hgd, rfl⟩ | ⟨hall, g, C, rfl, hg, hG, hA⟩⟩
      · have R2 := (R1.keep hb).keep ((Below.refl _ _).alloc (Nat.le_refl _) (.cells #[.int .i64 1, .int .i64 j] 44))
        have hF2 := Blk.new w2 44 #[.int .i64 1, .int .i64 j]
        have hB2 := (hb1.trans (hb.mono hb1.size)).alloc (hb1.trans (hb.mono hb1.size)).size (.cells #[.int .i64 1, .int .i64 j] 44)
        clear hb R1
        go_wp2_with fail
        refine (RM.out _ R2).mono ?_
        rintro e w3 ⟨hb, ⟨j', hj', hbad', hgd', rfl⟩ | ⟨hall, g, C, rfl, hg, hG, hA⟩⟩
        · obtain rfl : j = j' := by
            rcases Nat.lt_trichotomy j j' with h | h | h
            · exact absurd (hgd' j h) hbad
            · exact h
            · exact absurd (hgd j' h) hbad'
          have hF3 := (hF2.below hb hF2.lt).alloc (.cells #[.int .i64 1, .int .i64 j] 44)
          have f0 := hF3.cell 0
          have f1 := hF3.cell 1
          simp only [List.getElem?_toArray, List.getElem?_cons_zero, List.getElem?_cons_succ] at f0 f1
          have hB3 := hB2.trans (hb.mono hB2.size)
          have hB4 := hB3.alloc hB3.size (.cells #[.int .i64 1, .int .i64 j] 44)
          clear hbad hgd hbad' hgd' hb hF2 hF3
          go_wp2_with fail
          refine (same_yes none none 0 0 0 (fun _ => 0) (by unfold maxLen; omega) (fun i hi => absurd hi (by omega)) (fun i hi => absurd hi (by omega))).mono ?_
          rintro e w4 ⟨rfl, hb4⟩
          go_wp2_with fail
          go_ret
          exact ⟨by simp, hB4.trans (hb4.mono hB4.size)⟩
        · exact absurd (hall j hj) hbad
      · have R2 := (R1.keep hb).keep ((Below.refl _ _).alloc (Nat.le_refl _) (.cells #[.int .i64 0, .int .i64 0] 44))
        have hF2 := Blk.new w2 44 #[.int .i64 0, .int .i64 0]
        have hG2 := hG.alloc (.cells #[.int .i64 0, .int .i64 0] 44)
        have hB2 := (hb1.trans (hb.mono hb1.size)).alloc (hb1.trans (hb.mono hb1.size)).size (.cells #[.int .i64 0, .int .i64 0] 44)
        clear hb R1 hG
        go_wp2_with fail
        refine (RM.out _ R2).mono ?_
        rintro e w3 ⟨hb, ⟨j', hj', hbad', hgd', rfl⟩ | ⟨_, g', C', rfl, hg', hG', hA'⟩⟩
        · exact absurd (hall j' hj') hbad'
        · have hF3 := (hF2.below hb hF2.lt).alloc (.cells #[.int .i64 0, .int .i64 0] 44)
          have f0 := hF3.cell 0
          have f1 := hF3.cell 1
          simp only [List.getElem?_toArray, List.getElem?_cons_zero, List.getElem?_cons_succ] at f0 f1
          have hB3 := hB2.trans (hb.mono hB2.size)
          have hB4 := hB3.alloc hB3.size (.cells #[.int .i64 0, .int .i64 0] 44)
          have I1 := IRow.of_blk ((hG2.below hb hG2.lt).alloc (.cells #[.int .i64 0, .int .i64 0] 44)) hA WFL.out
          have I2 := IRow.of_blk (hG'.alloc (.cells #[.int .i64 0, .int .i64 0] 44)) hA' WFL.out
          clear hall hb hF2 hF3 hG2 hG' R2
          go_wp2_with fail
          refine (same_yes (some ⟨g, 0, none⟩) (some ⟨g', 0, none⟩) S S S (laid ps m) (by unfold maxLen; omega) I1 I2).mono ?_
          rintro e w4 ⟨rfl, hb4⟩
          go_wp2_with fail
          go_ret
          exact ⟨by simp, hB4.trans (hb4.mono hB4.size)⟩
    · go_wp2_with fail
      refine (make_pages n A m c _ hp).mono ?_
      rintro e w2 ⟨rfl, hb⟩
      have hF2 := Blk.new w2 44 #[.int .i64 6, .int .i64 0]
      have hB2 := (hb1.trans (hb.mono hb1.size)).alloc (hb1.trans (hb.mono hb1.size)).size (.cells #[.int .i64 6, .int .i64 0] 44)
      go_wp2_with fail
      refine (rmake_pages n A m c _ hp).mono ?_
      rintro e w3 ⟨rfl, hb⟩
      have hF3 := (hF2.below hb hF2.lt).alloc (.cells #[.int .i64 6, .int .i64 0] 44)
      have f0 := hF3.cell 0
      have f1 := hF3.cell 1
      simp only [List.getElem?_toArray, List.getElem?_cons_zero, List.getElem?_cons_succ] at f0 f1
      have hB3 := hB2.trans (hb.mono hB2.size)
      have hB4 := hB3.alloc hB3.size (.cells #[.int .i64 6, .int .i64 0] 44)
      clear hb hF2 hF3 hp
      go_wp2_with fail
      refine (same_yes none none 0 0 0 (fun _ => 0) (by unfold maxLen; omega) (fun i hi => absurd hi (by omega)) (fun i hi => absurd hi (by omega))).mono ?_
      rintro e w4 ⟨rfl, hb4⟩
      go_wp2_with fail
      go_ret
      exact ⟨by simp, hB4.trans (hb4.mono hB4.size)⟩
  · have HS := Lib.hid hs
    clear hs
    go_wp2_with fail
    refine (asV (small_any A m c ps HM.out R1) (by rw [HS.out])).mono ?_; rintro e w' ⟨rfl, rfl⟩
    go_wp2_with fail
    go_ret
    exact ⟨rfl, hb1⟩

theorem own : ownKnob Try.prog.godebug = none := by kernel_rfl
theorem laidOut : laidOutB Try.prog = true := by kernel_rfl
set_option maxRecDepth 100000 in
theorem lifted (os : Os) (started : os.Started) (H : Type) (enc : TypeId × Value → H) :
    ReturnsInHanded {} Try.checked os 7 .any (Rows.cartMakesSpec.pre6 enc Try.prog Try.f7 Rows.cartMakesRow.domain false) (Rows.cartMakesSpec.post enc Try.prog Try.f7 false true false false) := by
  refine returnsInHanded_of_change (C := Try.checked) own started (by kernel_rfl) Try.func7
    (ChangeSpec.witness6 (enc := enc) (C := Try.checked) false ⟨#[], #[.int .i64 0, .slice none 0 0], []⟩ 8 (by kernel_rfl) (by kernel_rfl) (by kernel_rfl) (by kernel_rfl)) ?_
  intro W base args ds gs before hval0 hW _ _
  have hval : ∀ (j : Nat) t v, Try.f7.params[j]? = some t → args[j]? = some v → Value.okWide Try.prog W .any base t v := hval0
  have hW' := hW
  obtain ⟨p, q, hA0, hV, rfl, _, _⟩ := hW
  have hA : DataW.TrodAll enc Try.prog W 0 (fun _ => true) true Try.f7.params.toList args.toList ds p := hA0
  rw [Try.params7] at hA hval
  obtain ⟨v0, vs0, d0, ds0, p0, q0, hargs, rfl, rfl, h0, r0⟩ := trodAll_cons hA
  obtain ⟨v1, vs1, d1, ds1, p1, q1, rfl, rfl, rfl, h1, r1⟩ := trodAll_cons r0
  obtain ⟨rfl, rfl, rfl⟩ := trodAll_nil r1
  obtain rfl : args = #[v0, v1] := by cases args; simp_all
  obtain ⟨rfl, rfl⟩ := trodVars_none hV
  obtain ⟨a0, rfl, rfl, rfl, w0⟩ := open_int Try.underlying3 (hval 0 3 v0 rfl rfl) h0
  obtain ⟨A1, n1, c1, z1, rfl, g1, m1, R1⟩ := slice_pieces Try.underlying40 Try.underlying61 (by kernel_rfl) (by kernel_rfl) Try.underlying3 Try.underlying42 Try.underlying5 (by kernel_rfl) (hval 1 40 v1 rfl rfl) h1
  clear hA0 hval0
  refine (walk a0 w0 A1 n1 c1 z1 g1 m1 R1).mono fun e W' ⟨he, hg⟩ => ?_
  subst he
  exact ⟨_, rfl, law_post rfl Try.underlying4 laidOut (by kernel_rfl) rfl hW' rfl hg⟩

theorem over : Rows.cartMakesRow.holds Try.pinned (OpenSpec.ofChange Rows.cartMakesSpec) :=
  OpenClaim.holds_of_wide 7 Try.f7 rfl rfl rfl rfl rfl rfl rfl ⟨rfl, rfl, rfl, rfl, rfl⟩ rfl rfl rfl rfl rfl (by kernel_rfl) Try.func7 (by kernel_rfl)
    (of_decide_eq_true (by kernel_rfl)) (by unfold Func.isWrapper; first | (rw [if_pos (by decide +kernel)]; kernel_rfl) | (rw [if_neg (by decide +kernel)]; exact ⟨rfl, rfl⟩))
    (fun os started H enc _ => lifted os started H enc)

theorem proved : Rows.CartMakesSaid := over
#print axioms proved
end Go.Proofs.Ytcckojleeojpiaa.cartMakes
