/-
  For every input StateTexts returns true, and each argument reads behind the call as it read before. The one condition: when the call begins the package-level variables that the row lists hold what the program lays in them (TIED: the card shows it of the text of the project, pruned to the packages that this seat loads).
-/
import Derived.Test.YtnnfnjbfjgjgnaaDoorRows
import Derived.Test.YtnnfnjbfjgjgnaaDoorKST01
import Derived.SevenTiedAt
import Derived.ProofKit
import Derived.LaidMore
import Derived.OpenShut
import Derived.Stop.Joined
import Derived.Test.YtnnfnjbfjgjgnaaDoorCards
import Derived.Test.YtnnfnjbfjgjgnaaDoorTie
import Derived.Test.YtnnfnjbfjgjgnaaDoorKST46
namespace Go.Proofs.YtnnfnjbfjgjgnaaDoor.stateTexts
open Go.ChangeShapes Go.WideShapes Go.ChangeAt Go.RowKit
open Go.ChangeMaps (open_string)

set_option linter.unusedVariables false
set_option linter.unusedSimpArgs false
set_option maxRecDepth 100000 in
set_option maxHeartbeats 16000000 in
theorem walk {W : World} (r : Nat → Int) (hr : StOk r) (line : ByteArray) (hl : line.size ≤ maxLen) (hT : Tabs W) :
    Calls Tryd.prog 4 #[.agg (stA r), .string line] W fun e w' => e = .returned (.bool true) ∧ Below W.heap.size W w' := by
  have HT := Lib.hid hT
  have K := Lib.hid (Blk.new W 25 (stA r))
  have HB := Lib.hid ((Below.refl _ W).alloc (Nat.le_refl _) (.cells (stA r) 25))
  have HT0 := Lib.hid (hT.below ((Below.refl _ W).alloc (Nat.le_refl _) (.cells (stA r) 25)))
  have HR := Lib.hid hr
  have zr := stA_size r
  clear hT hr
  have HL := Lib.hid hl
  have zx := stA_size (rdR line)
  clear hl
  go_enter Tryd.func4, Tryd.ntmps4
  go_upto_region 1 with fail
  generalize World.alloc W _ = w0 at *
  go_wp2_with fail
  refine (live25 HT0.out).mono ?_
  rintro e w1 ⟨rfl, b⟩
  have HBn := Lib.hid (HB.out.trans (b.mono HB.out.size))
  have Kn := Lib.hid (K.out.below b K.out.lt)
  clear b HB K
  have HB := HBn
  have K := Kn
  clear HBn Kn
  have k1 := K.out
  go_wp2_with (refine wpList_load_row rfl 25 (.tmp 2) rfl (W.heap.size) (by rfl) 25 (stA r) (0, 0) _ k1 Tryd.underlying25 rfl (h8_st r) ?_)
  refine (stext_any r HR.out (HT.out.below HB.out).at_ (HT.out.below HB.out).ft).mono ?_
  rintro e w2 ⟨rfl, b⟩
  clear k1
  have HBn := Lib.hid (HB.out.trans (b.mono HB.out.size))
  have Kn := Lib.hid (K.out.below b K.out.lt)
  clear b HB K
  have HB := HBn
  have K := Kn
  clear HBn Kn
  obtain ⟨T, hT⟩ : ∃ T, txB r 16 = T := ⟨_, rfl⟩
  have HTT := Lib.hid hT
  rw [hT]
  clear hT
  go_wp2_with fail
  have hq := sread_any T (by rw [← HTT.out]; have := txB_size r 16; unfold maxLen; omega) (HT.out.below HB.out).at_ (HT.out.below HB.out).ft
  obtain ⟨q1, q2⟩ := rd_yes r HR.out
  rw [HTT.out] at q1 q2
  rw [q1, q2] at hq
  refine hq.mono ?_
  rintro e w3 ⟨rfl, b⟩
  clear hq q1 q2
  have HBn := Lib.hid (HB.out.trans (b.mono HB.out.size))
  have Kn := Lib.hid (K.out.below b K.out.lt)
  clear b HB K
  have HB := HBn
  have K := Kn
  clear HBn Kn
  have hsn := state_new r w3
  have Ng6 := Lib.hid (Blk.new w3 25 (stA r))
  have Kn := Lib.hid (K.out.alloc (.cells (stA r) 25))
  have neK := Lib.hid (show (W.heap.size) ≠ w3.heap.size by have := K.out.lt; omega)
  have HBn := Lib.hid (HB.out.alloc HB.out.size (.cells (stA r) 25))
  clear K HB
  go_upto_region 5 with fail
  clear hsn
  generalize World.alloc w3 _ = w4 at *
  generalize w3.heap.size = g6 at *
  have K := Kn
  clear Kn
  have HB := HBn
  clear HBn
  go_wp2_with fail
  refine (sread_any line HL.out (HT.out.below HB.out).at_ (HT.out.below HB.out).ft).mono ?_
  rintro e w5 ⟨rfl, b⟩
  have HBn := Lib.hid (HB.out.trans (b.mono HB.out.size))
  have Kn := Lib.hid (K.out.below b K.out.lt)
  have Ng6n := Lib.hid (Ng6.out.below b Ng6.out.lt)
  clear b HB K Ng6
  have HB := HBn
  have K := Kn
  have Ng6 := Ng6n
  clear HBn Kn Ng6n
  have hsn := state_new (rdR line) w5
  have Ng8 := Lib.hid (Blk.new w5 25 (stA (rdR line)))
  have Kn := Lib.hid (K.out.alloc (.cells (stA (rdR line)) 25))
  have neK := Lib.hid (show (W.heap.size) ≠ w5.heap.size by have := K.out.lt; omega)
  have Ng6n := Lib.hid (Ng6.out.alloc (.cells (stA (rdR line)) 25))
  have neNg6 := Lib.hid (show g6 ≠ w5.heap.size by have := Ng6.out.lt; omega)
  have HBn := Lib.hid (HB.out.alloc HB.out.size (.cells (stA (rdR line)) 25))
  clear K Ng6 HB
  go_upto_region 6 with fail
  clear hsn
  generalize World.alloc w5 _ = w6 at *
  generalize w5.heap.size = g8 at *
  have K := Kn
  clear Kn
  have Ng6 := Ng6n
  clear Ng6n
  have HB := HBn
  clear HBn
  go_wp2_with fail
  have hq := rsread_any line w6
  rw [← (rd_rs line).1, ← (rd_rs line).2] at hq
  refine hq.mono ?_
  rintro e w7 ⟨rfl, b⟩
  clear hq
  have HBn := Lib.hid (HB.out.trans (b.mono HB.out.size))
  have Kn := Lib.hid (K.out.below b K.out.lt)
  have Ng6n := Lib.hid (Ng6.out.below b Ng6.out.lt)
  have Ng8n := Lib.hid (Ng8.out.below b Ng8.out.lt)
  clear b HB K Ng6 Ng8
  have HB := HBn
  have K := Kn
  have Ng6 := Ng6n
  have Ng8 := Ng8n
  clear HBn Kn Ng6n Ng8n
  have hsn := state_new (rdR line) w7
  have Ng10 := Lib.hid (Blk.new w7 25 (stA (rdR line)))
  have Kn := Lib.hid (K.out.alloc (.cells (stA (rdR line)) 25))
  have neK := Lib.hid (show (W.heap.size) ≠ w7.heap.size by have := K.out.lt; omega)
  have Ng6n := Lib.hid (Ng6.out.alloc (.cells (stA (rdR line)) 25))
  have neNg6 := Lib.hid (show g6 ≠ w7.heap.size by have := Ng6.out.lt; omega)
  have Ng8n := Lib.hid (Ng8.out.alloc (.cells (stA (rdR line)) 25))
  have neNg8 := Lib.hid (show g8 ≠ w7.heap.size by have := Ng8.out.lt; omega)
  have HBn := Lib.hid (HB.out.alloc HB.out.size (.cells (stA (rdR line)) 25))
  clear K Ng6 Ng8 HB
  go_upto_region 7 with fail
  clear hsn
  generalize World.alloc w7 _ = w8 at *
  generalize w7.heap.size = g10 at *
  have K := Kn
  clear Kn
  have Ng6 := Ng6n
  clear Ng6n
  have Ng8 := Ng8n
  clear Ng8n
  have HB := HBn
  clear HBn
  obtain ⟨E, hE⟩ : ∃ E, rdE line = E := ⟨_, rfl⟩
  simp only [hE]
  clear hE
  have ht : (T.toList == T.toList) = true := ba_eq T
  have hrt := fun W => rstext_any r HR.out W
  rw [rtB_eq r HR.out, HTT.out] at hrt
  have HRT := Lib.hid hrt
  clear hrt
  have k8 := K.out
  go_wp2_with (refine wpList_load_row rfl 25 (.tmp 2) rfl (W.heap.size) (by rfl) 25 (stA r) (0, 0) _ k8 Tryd.underlying25 rfl (h8_st r) ?_)
  refine (HRT.out _).mono ?_
  rintro e w9 ⟨rfl, b⟩
  clear k8
  have HBn := Lib.hid (HB.out.trans (b.mono HB.out.size))
  have Kn := Lib.hid (K.out.below b K.out.lt)
  have Ng6n := Lib.hid (Ng6.out.below b Ng6.out.lt)
  have Ng8n := Lib.hid (Ng8.out.below b Ng8.out.lt)
  have Ng10n := Lib.hid (Ng10.out.below b Ng10.out.lt)
  clear b HB K Ng6 Ng8 Ng10
  have HB := HBn
  have K := Kn
  have Ng6 := Ng6n
  have Ng8 := Ng8n
  have Ng10 := Ng10n
  clear HBn Kn Ng6n Ng8n Ng10n
  have k9 := K.out
  have n6 := Ng6.out
  have n8 := Ng8.out
  have n10 := Ng10.out
  go_wp2_with (first | (refine wpList_load_row_want (by kernel_rfl) 25 (.tmp 6) rfl g6 (by rfl) 25 (stA r) (0, 0) _ n6 Tryd.underlying25 rfl (h8_st r) ?_) | (refine wpList_load_row_want (by kernel_rfl) 25 (.tmp 2) rfl (W.heap.size) (by rfl) 25 (stA r) (0, 0) _ k9 Tryd.underlying25 rfl (h8_st r) ?_) | (refine wpList_load_row_want (by kernel_rfl) 25 (.tmp 8) rfl g8 (by rfl) 25 (stA (rdR line)) (0, 0) _ n8 Tryd.underlying25 rfl (h8_st (rdR line)) ?_) | (refine wpList_load_row_want (by kernel_rfl) 25 (.tmp 10) rfl g10 (by rfl) 25 (stA (rdR line)) (0, 0) _ n10 Tryd.underlying25 rfl (h8_st (rdR line)) ?_) | (refine wpList_eql_want (by kernel_rfl) (.tmp 36) (.tmp 37) r rfl rfl rfl ?_) | (refine wpList_eql_want (by kernel_rfl) (.tmp 45) (.tmp 46) (rdR line) rfl rfl rfl ?_))
  go_ret
  exact ⟨rfl, HB.out⟩

theorem own : ownKnob Tryd.prog.godebug = none := by kernel_rfl
theorem laidOut : laidOutB Tryd.prog = true := by kernel_rfl
theorem door_met (os : Os) (args : Array Value) : laidMetH Tryd.prog laid2 ((World.doorLaid Tryd.prog 400 os).forCall (fun _ _ => 0) ⟨#[], args, []⟩).memory :=
  laidMetH_of_parts3 (fuel := 8) (laidMet_of_run' 8 (by kernel_rfl) (by kernel_rfl)) (by kernel_rfl) (by kernel_rfl)
set_option maxRecDepth 100000 in
set_option maxHeartbeats 4000000 in
theorem lifted (os : Os) (started : os.Started) (H : Type) (enc : TypeId × Value → H) :
    ReturnsInHanded {} Tryd.checked os 4 .any (fun w args => (Rows.stateTextsSpec.pre enc Tryd.prog Tryd.f4 [] false w args ∧ laidMetH Tryd.prog laid2 w) ∧ sizedMet enc Tryd.prog Tryd.f4 (OpenSpec.ofChange Rows.stateTextsSpec) false w args)
      (Rows.stateTextsSpec.post enc Tryd.prog Tryd.f4 false true false false) := by
  refine returnsInHanded_of_change_and (C := Tryd.checked) (X := fun w _ => laidMetH Tryd.prog laid2 w) (fun _ _ _ hh h => h.of_heap hh) own started (by kernel_rfl) Tryd.func4
    (ChangeSpec.witness_shaped (enc := enc) (C := Tryd.checked) (os := os) (X := fun w _ => laidMetH Tryd.prog laid2 w) false (World.doorLaid Tryd.prog 400 os) #[.agg #[.int .u8 0, .int .u8 0, .int .u8 0, .int .u8 0, .int .u8 0, .int .u16 0, .int .u8 0, .int .u8 0, .int .u8 0, .int .u8 0, .int .u8 0, .int .u8 0, .int .u8 0, .int .u8 0, .int .u8 0, .bool false], .string ⟨#[]⟩] 8 rfl (World.shaped_of_RefB (by kernel_rfl) (by kernel_rfl)) (by kernel_rfl) (by kernel_rfl) (by kernel_rfl) (door_met os _)) ?_
  intro W base args ds gs before hval0 hW _ _ hL0 _
  have hL : laidMetH Tryd.prog laid2 W := hL0
  rw [MakeChecks.laidMetH_plain _ _ _ (by kernel_rfl)] at hL
  have HT := of_laid hL
  have hval : ∀ (j : Nat) t v, Tryd.f4.params[j]? = some t → args[j]? = some v → Value.okWide Tryd.prog W .any base t v := hval0
  have hW' := hW
  obtain ⟨p, q, hA0, hV, rfl, _, _⟩ := hW
  have hA : DataW.TrodAll enc Tryd.prog W 0 (fun _ => true) true Tryd.f4.params.toList args.toList ds p := hA0
  rw [Tryd.params4] at hA hval
  obtain ⟨v0, vs0, d0, ds0, p0, q0, hargs, rfl, rfl, h0, r0⟩ := trodAll_cons hA
  obtain ⟨v1, vs1, d1, ds1, p1, q1, rfl, rfl, rfl, h1, r1⟩ := trodAll_cons r0
  obtain ⟨rfl, rfl, rfl⟩ := trodAll_nil r1
  obtain rfl : args = #[v0, v1] := by cases args; simp_all
  obtain ⟨rfl, rfl⟩ := trodVars_none hV
  obtain ⟨st0, rfl, So0⟩ := state_value Tryd.underlying25 (by kernel_rfl) (by kernel_rfl) (by kernel_rfl) Tryd.underlying5 Tryd.underlying5 Tryd.underlying5 Tryd.underlying5 Tryd.underlying5 Tryd.underlying22 Tryd.underlying23 Tryd.underlying5 (by kernel_rfl) Tryd.underlying5 Tryd.underlying4 (hval 0 25 v0 rfl rfl) h0
  obtain ⟨a1, rfl, rfl, rfl, w1⟩ := open_string Tryd.underlying9 (hval 1 9 v1 rfl rfl) h1
  clear hA0 hval0
  refine (walk st0 So0 a1 w1 HT).mono fun e W' ⟨he, hg⟩ => ?_
  subst he
  exact ⟨_, rfl, law_post rfl Tryd.underlying4 laidOut (by kernel_rfl) rfl hW' rfl hg⟩

theorem over : Rows.stateTextsRow.holds Tryd.pinned (OpenSpec.ofChange Rows.stateTextsSpec) :=
  OpenClaim.holds_of_wide 4 Tryd.f4 rfl rfl rfl rfl rfl rfl rfl ⟨rfl, rfl, rfl, rfl, rfl⟩ rfl rfl rfl rfl rfl (by kernel_rfl) Tryd.func4 (by kernel_rfl)
    (of_decide_eq_true (by kernel_rfl)) (by unfold Func.isWrapper; first | (rw [if_pos (by decide +kernel)]; kernel_rfl) | (rw [if_neg (by decide +kernel)]; exact ⟨rfl, rfl⟩))
    (fun os started H enc _ => lifted os started H enc)

theorem proved : Rows.StateTextsCardSaid :=
  Claim7.holds_tied_plain_at .later [] [.data, .data, .data] true _ false
    over (fun _ h => by cases h) (by kernel_rfl) (fun _ h => by cases h) stateTexts_row_tie rfl ⟨rfl, rfl⟩ (by kernel_rfl) rfl
    (fun f fn hf hfn => by
      obtain rfl : f = 4 := Option.some.inj ((show Tryd.prog.funcNamed "gannet/gannetlaw25.StateTexts" = some 4 by kernel_rfl).symm.trans hf) |>.symm
      obtain rfl : fn = Tryd.f4 := (Option.some.inj (Tryd.func4.symm.trans hfn)).symm
      exact ⟨by kernel_rfl, fun j t ht => by
        rw [Tryd.params4] at ht
        have hm : t ∈ [25, 9] := by simpa using Array.mem_of_getElem? ht
        have hall : ([25, 9].all fun u => !Tryd.prog.wantsStandIn u) = true := by kernel_rfl
        exact (show Tryd.prog.wantsStandIn t = false by simpa using List.all_eq_true.1 hall t hm)⟩)
    (by kernel_rfl)
#print axioms proved
end Go.Proofs.YtnnfnjbfjgjgnaaDoor.stateTexts
