/-
  For every input CartPrograms returns true, and each argument reads behind the call as it read before. No conditions.
-/
import Derived.Test.YtcckojleeojpiaaRows
import Derived.Test.YtcckojleeojpiaaG3
import Derived.Test.YtcckojleeojpiaaG11
import Derived.Test.YtcckojleeojpiaaCart11
import Derived.Test.YtcckojleeojpiaaCart12
import Derived.Test.YtcckojleeojpiaaPhys2
import Derived.Deep.RegionWith
namespace Go.Proofs.Ytcckojleeojpiaa.cartPrograms
open Go.ChangeShapes Go.WideShapes Go.ChangeAt Go.RowKit
open Go.ChangeMaps (open_string)

set_option linter.unusedVariables false
theorem word_prog (k n : Nat) (z gs : Nat → Int) (q : Nat) (hq : q < 5) (b0 : 0 ≤ gs q) (b1 : gs q ≤ 65535) : wordAt 8192 (progF k n z gs) (8182 + 2 * (q : Int)) = gs q := by
  have e0 : wz gs (2 * q) = gs q % 256 := by rw [wz_even, IntKind.wrap_u8]
  have e1 : wz gs (2 * q + 1) = gs q / 256 := by rw [wz_odd, IntKind.wrap_u8]; omega
  have r0 : readI 8192 (progF k n z gs) (8182 + 2 * (q : Int)) = gs q % 256 := by
    unfold readI
    rw [if_pos ⟨where_rom _ (by unfold bankI; omega), by show _ < ((8192 : Nat) : Int); omega⟩, show ((8182 + 2 * (q : Int)) % 2097152).toNat = 8182 + 2 * q by omega]
    unfold progF
    rw [if_pos (by omega), show 8182 + 2 * q - 8182 = 2 * q by omega, e0]
  have r1 : readI 8192 (progF k n z gs) (8183 + 2 * (q : Int)) = gs q / 256 := by
    unfold readI
    rw [if_pos ⟨where_rom _ (by unfold bankI; omega), by show _ < ((8192 : Nat) : Int); omega⟩, show ((8183 + 2 * (q : Int)) % 2097152).toNat = 8183 + 2 * q by omega]
    unfold progF
    rw [if_pos (by omega), show 8183 + 2 * q - 8182 = 2 * q + 1 by omega, e1]
  unfold wordAt
  rw [show (8182 + 2 * (q : Int)) % 8192 = 8182 + 2 * q by omega, IntWalk.u16_in (8182 + 2 * (q : Int) + 1) (by omega), show (8182 + 2 * (q : Int) + 1) % 8192 = 8183 + 2 * q by omega, r0, r1, wordI_eq _ _ (by omega) (by omega) (by omega) (by omega)]
  omega
theorem ne_same (x : Int) : (x != x) = false := by simp
set_option maxRecDepth 100000 in
set_option maxHeartbeats 8000000 in
theorem walk {W : World} (o : Int) (wo : (Lit.int .u16 o).wf = true) (A : Option Addr) (n c : Nat) (z : Nat → Int) (hnc : n ≤ c) (hcm : c ≤ maxLen) (R : IRow W .u8 A n z) (hy : c ≤ 140737488355328) (gs : Nat → Int) (wg : ∀ i, (Lit.int .u16 (gs i)).wf = true) :
    Calls Try.prog 9 #[.int .u16 o, .slice A n c, .agg #[.int .u16 (gs 0), .int .u16 (gs 1), .int .u16 (gs 2), .int .u16 (gs 3), .int .u16 (gs 4)]] W fun e w' => e = .returned (.bool true) ∧ Below W.heap.size W w' := by
  obtain ⟨o0, o1⟩ := bounds_u16 wo
  have GS := Lib.hid (fun j => bounds_u16 (wg j))
  have HCM := Lib.hid hcm
  clear wo wg hcm
  go_enter Try.func9, Try.ntmps9
  go_wp2_with fail
  refine (live04_any _).mono ?_
  rintro e w1 ⟨rfl, hb1⟩
  have hV1 : Blk w1 W.heap.size 55 (aggW gs) := (Blk.new W 55 (aggW gs)).below hb1 (by simp)
  have hB1 : Below W.heap.size W w1 := ((Below.refl W.heap.size W).alloc (Nat.le_refl _) (.cells #[.int .u16 (gs 0), .int .u16 (gs 1), .int .u16 (gs 2), .int .u16 (gs 3), .int .u16 (gs 4)] 55)).trans (hb1.mono (by simp))
  have R1 := R.keep hB1
  clear hb1
  have f0 := hV1.cell 0
  have f1 := hV1.cell 1
  have f2 := hV1.cell 2
  have f3 := hV1.cell 3
  have f4 := hV1.cell 4
  simp only [aggW, List.getElem?_toArray, List.getElem?_cons_zero, List.getElem?_cons_succ] at f0 f1 f2 f3 f4
  by_cases hl : 8182 < o % 8192 + n
  · go_wp2_with fail
    refine (program_long o A n c gs _ o0 o1 (by omega) hl).mono ?_
    rintro e w2 ⟨rfl, hb2⟩
    have hV2 := hV1.below hb2 hV1.lt
    have hB2 := hB1.trans (hb2.mono hB1.size)
    clear f0 f1 f2 f3 f4 hb2
    have f0 := hV2.cell 0
    have f1 := hV2.cell 1
    have f2 := hV2.cell 2
    have f3 := hV2.cell 3
    have f4 := hV2.cell 4
    simp only [aggW, List.getElem?_toArray, List.getElem?_cons_zero, List.getElem?_cons_succ] at f0 f1 f2 f3 f4
    go_wp2_with fail
    refine (rprogram_long o A n c gs _ o0 o1 (by omega) hl).mono ?_
    rintro e w3 ⟨rfl, hb3⟩
    have hB3 := hB2.trans (hb3.mono hB2.size)
    clear f0 f1 f2 f3 f4 hb3 hl
    go_wp2_with fail
    refine (same_yes none none 0 0 0 (fun _ => 0) (by unfold maxLen; omega) (fun i hi => absurd hi (by omega)) (fun i hi => absurd hi (by omega))).mono ?_
    rintro e w4 ⟨rfl, hb4⟩
    have hB4 := hB3.trans (hb4.mono hB3.size)
    clear hb4
    go_wp2_with fail
    go_rounds 1
    go_ret
    exact ⟨rfl, hB4⟩
  · obtain ⟨k, hk⟩ := Int.eq_ofNat_of_zero_le (show 0 ≤ o % 8192 by omega)
    have hkn : k + n ≤ 8182 := by omega
    have HP := Lib.hid (fun w (R : IRow w .u8 A n z) => program_any o k A n c z gs hnc HCM.out R o0 o1 hk hkn)
    have HR := Lib.hid (fun w (R : IRow w .u8 A n z) => rprogram_any o k A n c z gs hnc HCM.out R o0 o1 hk hkn GS.out)
    have WF := Lib.hid (progF_wf (o := k) (gs := gs) R)
    have WP := Lib.hid (fun q hq => word_prog k n z gs q hq (GS.out q).1 (GS.out q).2)
    clear hl hk
    go_wp2_with fail
    refine (HP.out _ R1).mono ?_
    clear HP
    rintro e w2 ⟨hb2, g, C, rfl, hg, hG, hA⟩
    have hV2 := hV1.below hb2 hV1.lt
    have hB2 := hB1.trans (hb2.mono hB1.size)
    have R2 := R1.keep hb2
    clear f0 f1 f2 f3 f4 hb2 R1
    have f0 := hV2.cell 0
    have f1 := hV2.cell 1
    have f2 := hV2.cell 2
    have f3 := hV2.cell 3
    have f4 := hV2.cell 4
    simp only [aggW, List.getElem?_toArray, List.getElem?_cons_zero, List.getElem?_cons_succ] at f0 f1 f2 f3 f4
    go_wp2_with fail
    refine (HR.out _ R2).mono ?_
    clear HR
    rintro e w3 ⟨hb3, g', C', rfl, hg', hG', hA'⟩
    have hB3 := hB2.trans (hb3.mono hB2.size)
    have hV3 := hV2.below hb3 hV2.lt
    have I1 := IRow.of_blk (hG.below hb3 hG.lt) hA WF.out
    have I2 := IRow.of_blk hG' hA' WF.out
    clear f0 f1 f2 f3 f4 hb3 R2 hG hG'
    go_wp2_with fail
    refine (same_yes (some ⟨g, 0, none⟩) (some ⟨g', 0, none⟩) 8192 8192 8192 (progF k n z gs) (by unfold maxLen; omega) I1 I2).mono ?_
    rintro e w4 ⟨rfl, hb4⟩
    have hB4 := hB3.trans (hb4.mono hB3.size)
    have hV4 := hV3.below hb4 hV3.lt
    have I4 := I1.keep hb4
    clear hb4 I2 I1 hV3 hV2 hV1
    go_wp2_with fail
    go_loopw [11] (fun i wr => ∃ q : Nat, q ≤ 5 ∧ i = .int .i64 q ∧ Blk wr W.heap.size 55 (aggW gs) ∧ Below W.heap.size W wr ∧ Hid (IRow wr .u8 (some ⟨g, 0, none⟩) 8192 (progF k n z gs))) (fun i _ => 5 - (intOf i).toNat)
    case atStart => exact ⟨0, by omega, rfl, hV4, hB4, Lib.hid I4⟩
    case round =>
      obtain ⟨q, hq, rfl, hV, hB, HI⟩ := hrel
      have zB := hB.size
      by_cases hlt : q < 5
      · have v0 : wr.cell? ⟨W.heap.size, q, none⟩ = some (.int .u16 (gs q)) := by rw [hV.cell]; exact aggW_at gs q hlt
        have i0 : (0 : Int) ≤ (q : Int) := by omega
        have i1 : (q : Int) < 5 := by omega
        have i2 : IntKind.i64.wrap (2 * (q : Int)) = 2 * q := IntWalk.i64_in _ (by omega)
        have i3 : IntKind.i64.wrap (8182 + 2 * (q : Int)) = 8182 + 2 * q := IntWalk.i64_in _ (by omega)
        have i4 : IntKind.u16.wrap (8182 + 2 * (q : Int)) = 8182 + 2 * q := IntWalk.u16_in _ (by omega)
        have NS := ne_same (gs q)
        have HI2 : Hid (IRow wr.drew .u8 (some ⟨g, 0, none⟩) 8192 (progF k n z gs)) := HI
        go_wp2_with fail
        go_region_with (go_at_call 40; refine (asV (word_any' (some ⟨g, 0, none⟩) 8192 8192 (progF k n z gs) (8182 + 2 * (q : Int)) (by unfold maxLen; omega) HI2.out (by omega) (by omega)) (by rw [WP.out q hlt])).mono ?_; rintro e w5 ⟨rfl, hb5⟩; have hV5 := Blk.later hV hb5 rfl; have v1 : w5.cell? ⟨W.heap.size, q, none⟩ = some (.int .u16 (gs q)) := by (rw [hV5.cell]; exact aggW_at gs q hlt))
        all_goals
          go_wp2_with fail
          go_roundw
          case rel => exact ⟨q + 1, by omega, by go_num, hV5, hB.drew.trans (hb5.mono zB), Lib.hid (HI2.out.keep hb5)⟩
          case measure => simp [intOf]; omega
      · obtain rfl : q = 5 := by omega
        go_wp2_with fail
        go_ret
        exact ⟨rfl, hB⟩

theorem own : ownKnob Try.prog.godebug = none := by kernel_rfl
theorem laidOut : laidOutB Try.prog = true := by kernel_rfl
set_option maxRecDepth 100000 in
theorem lifted (os : Os) (started : os.Started) (H : Type) (enc : TypeId × Value → H) :
    ReturnsInHanded {} Try.checked os 9 .any (Rows.cartProgramsSpec.pre6 enc Try.prog Try.f9 Rows.cartProgramsRow.domain false) (Rows.cartProgramsSpec.post enc Try.prog Try.f9 false true false false) := by
  refine returnsInHanded_of_change_sized (C := Try.checked) own started (by kernel_rfl) Try.func9
    (ChangeSpec.witness6 (enc := enc) (C := Try.checked) false ⟨#[], #[.int .u16 0, .slice none 0 0, .agg #[.int .u16 0, .int .u16 0, .int .u16 0, .int .u16 0, .int .u16 0]], []⟩ 8 (by kernel_rfl) (by kernel_rfl) (by kernel_rfl) (by kernel_rfl)) ?_
  intro W base args ds gs before hval0 hW _ hsz0 _
  have hval : ∀ (j : Nat) t v, Try.f9.params[j]? = some t → args[j]? = some v → Value.okWide Try.prog W .any base t v := hval0
  have hW' := hW
  obtain ⟨p, q, hA0, hV, rfl, _, _⟩ := hW
  have hA : DataW.TrodAll enc Try.prog W 0 (fun _ => true) true Try.f9.params.toList args.toList ds p := hA0
  rw [Try.params9] at hA hval
  have hsz : (DataW.weightsEach Try.prog (Try.f9.params.toList ++ []) (ds ++ gs)).all (· ≤ reachBytes) = true := hsz0
  rw [Try.params9] at hsz
  clear hsz0
  obtain ⟨v0, vs0, d0, ds0, p0, q0, hargs, rfl, rfl, h0, r0⟩ := trodAll_cons hA
  obtain ⟨v1, vs1, d1, ds1, p1, q1, rfl, rfl, rfl, h1, r1⟩ := trodAll_cons r0
  obtain ⟨v2, vs2, d2, ds2, p2, q2, rfl, rfl, rfl, h2, r2⟩ := trodAll_cons r1
  obtain ⟨rfl, rfl, rfl⟩ := trodAll_nil r2
  obtain rfl : args = #[v0, v1, v2] := by cases args; simp_all
  obtain ⟨rfl, rfl⟩ := trodVars_none hV
  obtain ⟨a0, rfl, rfl, rfl, w0⟩ := open_int Try.underlying23 (hval 0 23 v0 rfl rfl) h0
  obtain ⟨A1, n1, c1, z1, rfl, g1, m1, R1, X1⟩ := slice_ints_sized Try.underlying42 Try.underlying5 (by kernel_rfl) (hval 1 42 v1 rfl rfl) h1
  have Y1 := reach_of hsz (j := 1) (t := 42) rfl rfl Try.underlying42 (by kernel_rfl) X1
  obtain ⟨cs2, z2, rfl, s2, k2, u2⟩ := array_ints Try.underlying55 Try.underlying23 (by kernel_rfl) (by kernel_rfl) (hval 2 55 v2 rfl rfl) h2
  obtain rfl := five s2 k2
  clear hA0 hval0
  refine (walk a0 w0 A1 n1 c1 z1 g1 m1 R1 Y1 z2 u2).mono fun e W' ⟨he, hg⟩ => ?_
  subst he
  exact ⟨_, rfl, law_post rfl Try.underlying4 laidOut (by kernel_rfl) rfl hW' rfl hg⟩

theorem over : Rows.cartProgramsRow.holds Try.pinned (OpenSpec.ofChange Rows.cartProgramsSpec) :=
  OpenClaim.holds_of_wide 9 Try.f9 rfl rfl rfl rfl rfl rfl rfl ⟨rfl, rfl, rfl, rfl, rfl⟩ rfl rfl rfl rfl rfl (by kernel_rfl) Try.func9 (by kernel_rfl)
    (of_decide_eq_true (by kernel_rfl)) (by unfold Func.isWrapper; first | (rw [if_pos (by decide +kernel)]; kernel_rfl) | (rw [if_neg (by decide +kernel)]; exact ⟨rfl, rfl⟩))
    (fun os started H enc _ => lifted os started H enc)

theorem proved : Rows.CartProgramsSaid := over
#print axioms proved
end Go.Proofs.Ytcckojleeojpiaa.cartPrograms
