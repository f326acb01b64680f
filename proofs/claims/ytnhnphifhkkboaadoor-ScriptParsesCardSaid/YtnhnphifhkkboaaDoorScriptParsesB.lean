/-
  For every input ScriptParses returns true, and each argument reads behind the call as it read before. The one condition: when the call begins the package-level variables that the row lists hold what the program lays in them (TIED: the card shows it of the text of the project, pruned to the packages that this seat loads).
-/
import Derived.Test.YtnhnphifhkkboaaDoorRows
import Derived.Test.YtnhnphifhkkboaaDoorKSW01
import Derived.SevenTiedAt
import Derived.ProofKit
import Derived.LaidMore
import Derived.OpenShut
import Derived.Stop.Joined
import Derived.Test.YtnhnphifhkkboaaDoorCards
import Derived.Test.YtnhnphifhkkboaaDoorTie
import Derived.Test.YtnhnphifhkkboaaDoorKSW50
import Derived.Test.YtnhnphifhkkboaaDoorKSW49
import Derived.Test.YtnhnphifhkkboaaDoorKSW39
import Derived.Test.YtnhnphifhkkboaaDoorKSW41
namespace Go.Proofs.YtnhnphifhkkboaaDoor.scriptParses
open Go.ChangeShapes Go.WideShapes Go.ChangeAt Go.RowKit
open Go.ChangeMaps (open_string)

open Go.Shelf

theorem parse_two {w w' : World} {E : Int × Int} {P : Ps} {e : Ending} (h : ParseR E P w e w') : Below w.heap.size w w' ∧ ∃ (s : Sv) (P' : Ps), e = .returned (.tuple #[.agg s.cs, .agg #[.int .i64 E.1, .int .i64 E.2]]) ∧ ScrV w' s P' ∧ P' = (if E.1 ≠ 0 then ⟨0, fun _ => 0, [], [], [], [], 0⟩ else P) := by
  obtain ⟨hb, h⟩ := h
  refine ⟨hb, ?_⟩
  rcases h with ⟨h1, rfl⟩ | ⟨h1, s, rfl, hs, _⟩
  · refine ⟨sv0, _, rfl, ?_, (if_pos h1).symm⟩
    have z : SlZ w' none 0 0 ([] : List Int).length (zL []) := ⟨rfl, Nat.le_refl _, Nat.zero_le _, fun i hi => absurd hi (Nat.not_lt_zero _), Typed.none, fun _ => ⟨rfl, rfl⟩⟩
    have z0 : SlZ w' none 0 0 0 (fun _ => 0) := ⟨rfl, Nat.le_refl _, Nat.zero_le _, fun i hi => absurd hi (Nat.not_lt_zero _), Typed.none, fun _ => ⟨rfl, rfl⟩⟩
    have ze : SlE w' none 0 0 [] := ⟨rfl, Nat.le_refl _, Nat.zero_le _, fun i hi => absurd hi (Nat.not_lt_zero _), Typed.none, fun _ => ⟨rfl, rfl⟩⟩
    exact ⟨z0, z, z, z, ze, rfl⟩
  · exact ⟨s, P, rfl, hs, by rw [if_neg (by rw [h1]; simp)]⟩
set_option linter.unusedVariables false
set_option linter.unusedSimpArgs false
set_option maxRecDepth 100000 in
set_option maxHeartbeats 16000000 in
theorem walk {W : World} (text : ByteArray) (hl : text.size ≤ maxLen) (hT : Tabs W) :
    Calls Tryd.prog 4 #[.string text] W fun e w' => e = .returned (.bool true) ∧ Below W.heap.size W w' := by
  have HT := Lib.hid hT
  obtain ⟨E, hE0⟩ : ∃ q, parseE text = q := ⟨_, rfl⟩
  obtain ⟨e1, e2⟩ := E
  have hE := Lib.hid hE0
  clear hT hE0
  go_enter Tryd.func4, Tryd.ntmps4
  go_wp2_with fail
  refine (live33_any HT.out).mono ?_
  rintro e w1 ⟨rfl, b⟩
  have HT1 := Lib.hid (HT.out.below b)
  have HB1 := Lib.hid b
  clear b HT
  by_cases h4 : 4000 < text.size
  · have i1 : (4000 : Int) < text.size := by omega
    by_cases h2 : text.size ≤ 200000
    · have i2 : (text.size : Int) ≤ 200000 := by omega
      go_wp2_with fail
      go_ret
      exact ⟨rfl, HB1.out⟩
    · have i2 : ¬ (text.size : Int) ≤ 200000 := by omega
      go_upto_region 6 with (go_at_call 16; refine (scparse_any text _ HT1.out.nm).mono ?_; rintro e w2 h2; obtain ⟨hb2, s1, P1, rfl, hs1, hp1⟩ := parse_two h2; clear h2; rw [hE.out]; obtain ⟨A1, n1, ca1, V1, a1, cv1, C1, b1, cc1, R1, c1, cr1, E1, m1, ce1, bud1⟩ := s1; unfold Sv.cs)
      (try dsimp only at *)
      have hB : Below w2.heap.size w2 ((w2.alloc (.cells #[.slice A1 n1 ca1, .slice V1 a1 cv1, .slice C1 b1 cc1, .slice R1 c1 cr1, .slice E1 m1 ce1, .int .i64 bud1] 27)).alloc (.cells #[.int .i64 e1, .int .i64 e2] 34)) := ((Below.refl _ w2).alloc (Nat.le_refl _) _).alloc (by simp) _
      have bS1 : Blk ((w2.alloc (.cells #[.slice A1 n1 ca1, .slice V1 a1 cv1, .slice C1 b1 cc1, .slice R1 c1 cr1, .slice E1 m1 ce1, .int .i64 bud1] 27)).alloc (.cells #[.int .i64 e1, .int .i64 e2] 34)) w2.heap.size 27 #[.slice A1 n1 ca1, .slice V1 a1 cv1, .slice C1 b1 cc1, .slice R1 c1 cr1, .slice E1 m1 ce1, .int .i64 bud1] := (Blk.new w2 _ _).alloc _
      have bF1 : Blk ((w2.alloc (.cells #[.slice A1 n1 ca1, .slice V1 a1 cv1, .slice C1 b1 cc1, .slice R1 c1 cr1, .slice E1 m1 ce1, .int .i64 bud1] 27)).alloc (.cells #[.int .i64 e1, .int .i64 e2] 34)) (w2.heap.size + 1) 34 #[.int .i64 e1, .int .i64 e2] := Blk.new_ (by simp)
      generalize World.alloc (World.alloc w2 _) _ = w3 at *
      have HS1 := Lib.hid (hs1.keep hB)
      have HB3 := Lib.hid (HB1.out.trans ((hb2.trans (hB.mono hb2.size)).mono HB1.out.size))
      have BS1 := Lib.hid bS1
      have BF1 := Lib.hid bF1
      have HP1 := Lib.hid hp1
      clear hB bS1 bF1 hs1 hb2 hp1
      generalize w2.heap.size = g1 at *
      go_upto_region 7 with (go_at_call 17; refine (rparse_any text _).mono ?_; rintro e w4 h2; obtain ⟨hb2, s2, P2, rfl, hs2, hp2⟩ := parse_two h2; clear h2; rw [hE.out]; obtain ⟨A2, n2, ca2, V2, a2, cv2, C2, b2, cc2, R2, c2, cr2, E2, m2, ce2, bud2⟩ := s2; unfold Sv.cs)
      (try dsimp only at *)
      have hB : Below w4.heap.size w4 ((w4.alloc (.cells #[.slice A2 n2 ca2, .slice V2 a2 cv2, .slice C2 b2 cc2, .slice R2 c2 cr2, .slice E2 m2 ce2, .int .i64 bud2] 27)).alloc (.cells #[.int .i64 e1, .int .i64 e2] 34)) := ((Below.refl _ w4).alloc (Nat.le_refl _) _).alloc (by simp) _
      have bS2 : Blk ((w4.alloc (.cells #[.slice A2 n2 ca2, .slice V2 a2 cv2, .slice C2 b2 cc2, .slice R2 c2 cr2, .slice E2 m2 ce2, .int .i64 bud2] 27)).alloc (.cells #[.int .i64 e1, .int .i64 e2] 34)) w4.heap.size 27 #[.slice A2 n2 ca2, .slice V2 a2 cv2, .slice C2 b2 cc2, .slice R2 c2 cr2, .slice E2 m2 ce2, .int .i64 bud2] := (Blk.new w4 _ _).alloc _
      have bF2 : Blk ((w4.alloc (.cells #[.slice A2 n2 ca2, .slice V2 a2 cv2, .slice C2 b2 cc2, .slice R2 c2 cr2, .slice E2 m2 ce2, .int .i64 bud2] 27)).alloc (.cells #[.int .i64 e1, .int .i64 e2] 34)) (w4.heap.size + 1) 34 #[.int .i64 e1, .int .i64 e2] := Blk.new_ (by simp)
      generalize World.alloc (World.alloc w4 _) _ = w5 at *
      have hbb := hb2.trans (hB.mono hb2.size)
      have HS2 := Lib.hid (hs2.keep hB)
      have HS3 := Lib.hid (HS1.out.keep hbb)
      have HB5 := Lib.hid (HB3.out.trans (hbb.mono HB3.out.size))
      have BS3 := Lib.hid (BS1.out.below hbb BS1.out.lt)
      have BF3 := Lib.hid (BF1.out.below hbb BF1.out.lt)
      have BS4 := Lib.hid bS2
      have BF4 := Lib.hid bF2
      have hP : P1 = P2 := by rw [HP1.out, hp2]
      subst hP
      clear hB bS2 bF2 hs2 hb2 hp2 hbb HS1 HB3 BS1 BF1 HP1
      generalize w4.heap.size = g2 at *
      have f0 : w5.cell? ⟨g1 + 1, 0, none⟩ = some (.int .i64 e1) := BF3.out.cell 0
      have f1 : w5.cell? ⟨g1 + 1, 1, none⟩ = some (.int .i64 e2) := BF3.out.cell 1
      have f2 : w5.cell? ⟨g2 + 1, 0, none⟩ = some (.int .i64 e1) := BF4.out.cell 0
      have f3 : w5.cell? ⟨g2 + 1, 1, none⟩ = some (.int .i64 e2) := BF4.out.cell 1
      have k1 := BS3.out
      have k2 := BS4.out
      have HSM := Lib.hid (rsame_yes _ _ P1 P1 HS3.out HS2.out (Alike.refl P1))
      unfold Sv.cs at HSM
      dsimp only at HSM
      clear HS2 HS3
      go_wp2_with (first | (first | (refine wpList_load_row rfl 27 (.tmp 3) rfl g1 (by rfl) 27 #[.slice A1 n1 ca1, .slice V1 a1 cv1, .slice C1 b1 cc1, .slice R1 c1 cr1, .slice E1 m1 ce1, .int .i64 bud1] (0, 0) _ k1 Tryd.underlying27 rfl sizeS ?_) | (refine wpList_load_row_want (by first | rfl | kernel_rfl) 27 (.tmp 3) rfl g1 (by rfl) 27 #[.slice A1 n1 ca1, .slice V1 a1 cv1, .slice C1 b1 cc1, .slice R1 c1 cr1, .slice E1 m1 ce1, .int .i64 bud1] (0, 0) _ k1 Tryd.underlying27 rfl sizeS ?_)) | (first | (refine wpList_load_row rfl 27 (.tmp 5) rfl g2 (by rfl) 27 #[.slice A2 n2 ca2, .slice V2 a2 cv2, .slice C2 b2 cc2, .slice R2 c2 cr2, .slice E2 m2 ce2, .int .i64 bud2] (0, 0) _ k2 Tryd.underlying27 rfl sizeS ?_) | (refine wpList_load_row_want (by first | rfl | kernel_rfl) 27 (.tmp 5) rfl g2 (by rfl) 27 #[.slice A2 n2 ca2, .slice V2 a2 cv2, .slice C2 b2 cc2, .slice R2 c2 cr2, .slice E2 m2 ce2, .int .i64 bud2] (0, 0) _ k2 Tryd.underlying27 rfl sizeS ?_)))
      refine HSM.out.mono ?_
      rintro e w6 ⟨rfl, hb⟩
      have HB6 := Lib.hid (HB5.out.trans (hb.mono HB5.out.size))
      clear hb f0 f1 f2 f3 k1 k2
      go_wp2_with fail
      go_ret
      exact ⟨rfl, HB6.out⟩
  · have i1 : ¬ (4000 : Int) < text.size := by omega
    go_upto_region 6 with (go_at_call 16; refine (scparse_any text _ HT1.out.nm).mono ?_; rintro e w2 h2; obtain ⟨hb2, s1, P1, rfl, hs1, hp1⟩ := parse_two h2; clear h2; rw [hE.out]; obtain ⟨A1, n1, ca1, V1, a1, cv1, C1, b1, cc1, R1, c1, cr1, E1, m1, ce1, bud1⟩ := s1; unfold Sv.cs)
    (try dsimp only at *)
    have hB : Below w2.heap.size w2 ((w2.alloc (.cells #[.slice A1 n1 ca1, .slice V1 a1 cv1, .slice C1 b1 cc1, .slice R1 c1 cr1, .slice E1 m1 ce1, .int .i64 bud1] 27)).alloc (.cells #[.int .i64 e1, .int .i64 e2] 34)) := ((Below.refl _ w2).alloc (Nat.le_refl _) _).alloc (by simp) _
    have bS1 : Blk ((w2.alloc (.cells #[.slice A1 n1 ca1, .slice V1 a1 cv1, .slice C1 b1 cc1, .slice R1 c1 cr1, .slice E1 m1 ce1, .int .i64 bud1] 27)).alloc (.cells #[.int .i64 e1, .int .i64 e2] 34)) w2.heap.size 27 #[.slice A1 n1 ca1, .slice V1 a1 cv1, .slice C1 b1 cc1, .slice R1 c1 cr1, .slice E1 m1 ce1, .int .i64 bud1] := (Blk.new w2 _ _).alloc _
    have bF1 : Blk ((w2.alloc (.cells #[.slice A1 n1 ca1, .slice V1 a1 cv1, .slice C1 b1 cc1, .slice R1 c1 cr1, .slice E1 m1 ce1, .int .i64 bud1] 27)).alloc (.cells #[.int .i64 e1, .int .i64 e2] 34)) (w2.heap.size + 1) 34 #[.int .i64 e1, .int .i64 e2] := Blk.new_ (by simp)
    generalize World.alloc (World.alloc w2 _) _ = w3 at *
    have HS1 := Lib.hid (hs1.keep hB)
    have HB3 := Lib.hid (HB1.out.trans ((hb2.trans (hB.mono hb2.size)).mono HB1.out.size))
    have BS1 := Lib.hid bS1
    have BF1 := Lib.hid bF1
    have HP1 := Lib.hid hp1
    clear hB bS1 bF1 hs1 hb2 hp1
    generalize w2.heap.size = g1 at *
    go_upto_region 7 with (go_at_call 17; refine (rparse_any text _).mono ?_; rintro e w4 h2; obtain ⟨hb2, s2, P2, rfl, hs2, hp2⟩ := parse_two h2; clear h2; rw [hE.out]; obtain ⟨A2, n2, ca2, V2, a2, cv2, C2, b2, cc2, R2, c2, cr2, E2, m2, ce2, bud2⟩ := s2; unfold Sv.cs)
    (try dsimp only at *)
    have hB : Below w4.heap.size w4 ((w4.alloc (.cells #[.slice A2 n2 ca2, .slice V2 a2 cv2, .slice C2 b2 cc2, .slice R2 c2 cr2, .slice E2 m2 ce2, .int .i64 bud2] 27)).alloc (.cells #[.int .i64 e1, .int .i64 e2] 34)) := ((Below.refl _ w4).alloc (Nat.le_refl _) _).alloc (by simp) _
    have bS2 : Blk ((w4.alloc (.cells #[.slice A2 n2 ca2, .slice V2 a2 cv2, .slice C2 b2 cc2, .slice R2 c2 cr2, .slice E2 m2 ce2, .int .i64 bud2] 27)).alloc (.cells #[.int .i64 e1, .int .i64 e2] 34)) w4.heap.size 27 #[.slice A2 n2 ca2, .slice V2 a2 cv2, .slice C2 b2 cc2, .slice R2 c2 cr2, .slice E2 m2 ce2, .int .i64 bud2] := (Blk.new w4 _ _).alloc _
    have bF2 : Blk ((w4.alloc (.cells #[.slice A2 n2 ca2, .slice V2 a2 cv2, .slice C2 b2 cc2, .slice R2 c2 cr2, .slice E2 m2 ce2, .int .i64 bud2] 27)).alloc (.cells #[.int .i64 e1, .int .i64 e2] 34)) (w4.heap.size + 1) 34 #[.int .i64 e1, .int .i64 e2] := Blk.new_ (by simp)
    generalize World.alloc (World.alloc w4 _) _ = w5 at *
    have hbb := hb2.trans (hB.mono hb2.size)
    have HS2 := Lib.hid (hs2.keep hB)
    have HS3 := Lib.hid (HS1.out.keep hbb)
    have HB5 := Lib.hid (HB3.out.trans (hbb.mono HB3.out.size))
    have BS3 := Lib.hid (BS1.out.below hbb BS1.out.lt)
    have BF3 := Lib.hid (BF1.out.below hbb BF1.out.lt)
    have BS4 := Lib.hid bS2
    have BF4 := Lib.hid bF2
    have hP : P1 = P2 := by rw [HP1.out, hp2]
    subst hP
    clear hB bS2 bF2 hs2 hb2 hp2 hbb HS1 HB3 BS1 BF1 HP1
    generalize w4.heap.size = g2 at *
    have f0 : w5.cell? ⟨g1 + 1, 0, none⟩ = some (.int .i64 e1) := BF3.out.cell 0
    have f1 : w5.cell? ⟨g1 + 1, 1, none⟩ = some (.int .i64 e2) := BF3.out.cell 1
    have f2 : w5.cell? ⟨g2 + 1, 0, none⟩ = some (.int .i64 e1) := BF4.out.cell 0
    have f3 : w5.cell? ⟨g2 + 1, 1, none⟩ = some (.int .i64 e2) := BF4.out.cell 1
    have k1 := BS3.out
    have k2 := BS4.out
    have HSM := Lib.hid (rsame_yes _ _ P1 P1 HS3.out HS2.out (Alike.refl P1))
    unfold Sv.cs at HSM
    dsimp only at HSM
    clear HS2 HS3
    go_wp2_with (first | (first | (refine wpList_load_row rfl 27 (.tmp 3) rfl g1 (by rfl) 27 #[.slice A1 n1 ca1, .slice V1 a1 cv1, .slice C1 b1 cc1, .slice R1 c1 cr1, .slice E1 m1 ce1, .int .i64 bud1] (0, 0) _ k1 Tryd.underlying27 rfl sizeS ?_) | (refine wpList_load_row_want (by first | rfl | kernel_rfl) 27 (.tmp 3) rfl g1 (by rfl) 27 #[.slice A1 n1 ca1, .slice V1 a1 cv1, .slice C1 b1 cc1, .slice R1 c1 cr1, .slice E1 m1 ce1, .int .i64 bud1] (0, 0) _ k1 Tryd.underlying27 rfl sizeS ?_)) | (first | (refine wpList_load_row rfl 27 (.tmp 5) rfl g2 (by rfl) 27 #[.slice A2 n2 ca2, .slice V2 a2 cv2, .slice C2 b2 cc2, .slice R2 c2 cr2, .slice E2 m2 ce2, .int .i64 bud2] (0, 0) _ k2 Tryd.underlying27 rfl sizeS ?_) | (refine wpList_load_row_want (by first | rfl | kernel_rfl) 27 (.tmp 5) rfl g2 (by rfl) 27 #[.slice A2 n2 ca2, .slice V2 a2 cv2, .slice C2 b2 cc2, .slice R2 c2 cr2, .slice E2 m2 ce2, .int .i64 bud2] (0, 0) _ k2 Tryd.underlying27 rfl sizeS ?_)))
    refine HSM.out.mono ?_
    rintro e w6 ⟨rfl, hb⟩
    have HB6 := Lib.hid (HB5.out.trans (hb.mono HB5.out.size))
    clear hb f0 f1 f2 f3 k1 k2
    go_wp2_with fail
    go_ret
    exact ⟨rfl, HB6.out⟩

theorem own : ownKnob Tryd.prog.godebug = none := by kernel_rfl
theorem laidOut : laidOutB Tryd.prog = true := by kernel_rfl
theorem door_met (os : Os) (args : Array Value) : laidMetH Tryd.prog laid2 ((World.doorLaid Tryd.prog 400 os).forCall (fun _ _ => 0) ⟨#[], args, []⟩).memory :=
  laidMetH_of_parts3 (fuel := 8) (laidMet_of_run' 8 (by kernel_rfl) (by kernel_rfl)) (by kernel_rfl) (by kernel_rfl)
set_option maxRecDepth 100000 in
set_option maxHeartbeats 4000000 in
theorem lifted (os : Os) (started : os.Started) (H : Type) (enc : TypeId × Value → H) :
    ReturnsInHanded {} Tryd.checked os 4 .any (fun w args => (Rows.scriptParsesSpec.pre enc Tryd.prog Tryd.f4 [] false w args ∧ laidMetH Tryd.prog laid2 w) ∧ sizedMet enc Tryd.prog Tryd.f4 (OpenSpec.ofChange Rows.scriptParsesSpec) false w args)
      (Rows.scriptParsesSpec.post enc Tryd.prog Tryd.f4 false true false false) := by
  refine returnsInHanded_of_change_and (C := Tryd.checked) (X := fun w _ => laidMetH Tryd.prog laid2 w) (fun _ _ _ hh h => h.of_heap hh) own started (by kernel_rfl) Tryd.func4
    (ChangeSpec.witness_shaped (enc := enc) (C := Tryd.checked) (os := os) (X := fun w _ => laidMetH Tryd.prog laid2 w) false (World.doorLaid Tryd.prog 400 os) #[.string ⟨#[]⟩] 8 rfl (World.shaped_of_RefB (by kernel_rfl) (by kernel_rfl)) (by kernel_rfl) (by kernel_rfl) (by kernel_rfl) (door_met os _)) ?_
  intro W base args ds gs before hval0 hW _ _ hL0 _
  have hL : laidMetH Tryd.prog laid2 W := hL0
  rw [MakeChecks.laidMetH_plain _ _ _ (by kernel_rfl)] at hL
  have HT := of_laid hL
  have hval : ∀ (j : Nat) t v, Tryd.f4.params[j]? = some t → args[j]? = some v → Value.okWide Tryd.prog W .any base t v := hval0
  have hW' := hW
  obtain ⟨p, q, hA0, hV, rfl, _, _⟩ := hW
  have hA : DataW.TrodAll enc Tryd.prog W 0 (fun _ => true) true Tryd.f4.params.toList args.toList ds p := hA0
  rw [Tryd.params4] at hA hval
  obtain ⟨v0, vs0, d0, ds0, p0, q0, hargs, rfl, rfl, h0, r0⟩ := trodAll_cons hA
  obtain ⟨rfl, rfl, rfl⟩ := trodAll_nil r0
  obtain rfl : args = #[v0] := by cases args; simp_all
  obtain ⟨rfl, rfl⟩ := trodVars_none hV
  obtain ⟨a0, rfl, rfl, rfl, w0⟩ := open_string Tryd.underlying9 (hval 0 9 v0 rfl rfl) h0
  clear hA0 hval0
  refine (walk a0 w0 HT).mono fun e W' ⟨he, hg⟩ => ?_
  subst he
  exact ⟨_, rfl, law_post rfl Tryd.underlying4 laidOut (by kernel_rfl) rfl hW' rfl hg⟩

theorem over : Rows.scriptParsesRow.holds Tryd.pinned (OpenSpec.ofChange Rows.scriptParsesSpec) :=
  OpenClaim.holds_of_wide 4 Tryd.f4 rfl rfl rfl rfl rfl rfl rfl ⟨rfl, rfl, rfl, rfl, rfl⟩ rfl rfl rfl rfl rfl (by kernel_rfl) Tryd.func4 (by kernel_rfl)
    (of_decide_eq_true (by kernel_rfl)) (by unfold Func.isWrapper; first | (rw [if_pos (by decide +kernel)]; kernel_rfl) | (rw [if_neg (by decide +kernel)]; exact ⟨rfl, rfl⟩))
    (fun os started H enc _ => lifted os started H enc)

theorem proved : Rows.ScriptParsesCardSaid :=
  Claim7.holds_tied_plain_at .later [] [.data, .data, .data, .data] true _ false
    over (fun _ h => by cases h) (by kernel_rfl) (fun _ h => by cases h) scriptParses_row_tie rfl ⟨rfl, rfl⟩ (by kernel_rfl) rfl
    (fun f fn hf hfn => by
      obtain rfl : f = 4 := Option.some.inj ((show Tryd.prog.funcNamed "gannet/gannetlaw33.ScriptParses" = some 4 by kernel_rfl).symm.trans hf) |>.symm
      obtain rfl : fn = Tryd.f4 := (Option.some.inj (Tryd.func4.symm.trans hfn)).symm
      exact ⟨by kernel_rfl, fun j t ht => by
        rw [Tryd.params4] at ht
        have hm : t ∈ [9] := by simpa using Array.mem_of_getElem? ht
        have hall : ([9].all fun u => !Tryd.prog.wantsStandIn u) = true := by kernel_rfl
        exact (show Tryd.prog.wantsStandIn t = false by simpa using List.all_eq_true.1 hall t hm)⟩)
    (by kernel_rfl)
#print axioms proved
end Go.Proofs.YtnhnphifhkkboaaDoor.scriptParses
