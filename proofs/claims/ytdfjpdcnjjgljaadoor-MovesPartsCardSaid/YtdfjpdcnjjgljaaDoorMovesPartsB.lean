/-
  For every input MovesParts returns true, and each argument reads behind the call as it read before. The one condition: when the call begins the package-level variables that the row lists hold what the program lays in them (TIED: the card shows it of the text of the project, pruned to the packages that this seat loads).
-/
import Derived.Test.YtdfjpdcnjjgljaaDoorRows
import Derived.Test.YtdfjpdcnjjgljaaDoorKMV01
import Derived.SevenTiedAt
import Derived.ProofKit
import Derived.LaidMore
import Derived.OpenShut
import Derived.Stop.Joined
import Derived.Test.YtdfjpdcnjjgljaaDoorCards
import Derived.Test.YtdfjpdcnjjgljaaDoorTie
import Derived.Test.YtdfjpdcnjjgljaaDoorKMV20
namespace Go.Proofs.YtdfjpdcnjjgljaaDoor.movesParts
open Go.ChangeShapes Go.WideShapes Go.ChangeAt Go.RowKit
open Go.ChangeMaps (open_string)

set_option linter.unusedVariables false
set_option linter.unusedSimpArgs false
set_option maxRecDepth 100000 in
set_option maxHeartbeats 8000000 in
theorem walk {W : World} (k : Int) (wk : (Lit.int .u8 k).wf = true) (f : Int) (wf : (Lit.int .u16 f).wf = true) (t : Int) (wt : (Lit.int .u16 t).wf = true) (a : Int) (wa : (Lit.int .u8 a).wf = true) (b : Int) (wb : (Lit.int .u8 b).wf = true) (A : Option Addr) (n c : Nat) (z : Nat → Int) (gc : n ≤ c) (mc : c ≤ maxLen) (R : IRow W .u8 A n z) (hT : Tabs W) :
    Calls Tryd.prog 10 #[.int .u8 k, .int .u16 f, .int .u16 t, .int .u8 a, .int .u8 b, .slice A n c] W fun e w' => e = .returned (.bool true) ∧ Below W.heap.size W w' := by
  obtain ⟨k0, k1⟩ := bounds_u8 wk
  obtain ⟨f0, f1⟩ := bounds_u16 wf
  obtain ⟨t0, t1⟩ := bounds_u16 wt
  obtain ⟨K, rfl⟩ : ∃ K : Nat, k = K := ⟨k.toNat, by omega⟩
  obtain ⟨a0, a1⟩ := bounds_u8 wa
  obtain ⟨b0, b1⟩ := bounds_u8 wb
  have HT := Lib.hid hT
  have HR := Lib.hid R
  have hns : (n : Int) ≤ 9223372036854775807 := by unfold maxLen at mc; omega
  have ek : ((K : Nat) : Int).tmod 5 = ((K % 5 : Nat) : Int) := by rw [Int.tmod_eq_emod_of_nonneg (by omega)]; rfl
  have ekw : IntKind.u8.wrap ((K % 5 : Nat) : Int) = ((K % 5 : Nat) : Int) := IntWalk.u8_in _ (by omega)
  obtain ⟨kk, hkk⟩ : ∃ kk, K % 5 = kk := ⟨_, rfl⟩
  have hk5 : kk < 5 := by omega
  rw [hkk] at ek ekw
  have nn : (n : Int) = 0 ∨ 0 < (n : Int) := by omega
  clear hT R mc wk wf wt wa wb
  by_cases hbad : n = 0 ∨ 1000 < n
  · rcases hbad with rfl | hbig
    · skip
      go_enter Tryd.func10, Tryd.ntmps10
      go_wp2_with fail
      refine (live26 HT.out).mono ?_
      rintro e w0 ⟨rfl, b0⟩
      have HB0 := Lib.hid b0
      clear b0
      go_wp2_with fail
      go_ret
      exact ⟨rfl, HB0.out⟩
    · have h1 : (1000 : Int) < n := by omega
      have h2 : ((n : Int) == 0) = false := by simp; omega
      go_enter Tryd.func10, Tryd.ntmps10
      go_wp2_with fail
      refine (live26 HT.out).mono ?_
      rintro e w0 ⟨rfl, b0⟩
      have HB0 := Lib.hid b0
      clear b0
      go_wp2_with fail
      go_ret
      exact ⟨rfl, HB0.out⟩
  · have h1 : ¬ (1000 : Int) < n := by omega
    have h2 : ((n : Int) == 0) = false := by simp; omega
    have hn0 : 0 < n := by omega
    obtain ⟨ad, rfl⟩ : ∃ ad, A = some ad := by obtain ⟨ad, e, _⟩ := HR.out 0 hn0; exact ⟨ad, e⟩
    obtain ⟨X, hX⟩ : ∃ X : Nat, 2 * a + 2 = (X : Int) := ⟨(2 * a + 2).toNat, by omega⟩
    obtain ⟨Y, hY⟩ : ∃ Y : Nat, b + 1 = (Y : Int) := ⟨(b + 1).toNat, by omega⟩
    have hX2 : X % 2 = 0 := by omega
    have w1 : IntKind.u16.wrap (2 * a) = 2 * a := by rw [v16_mod]; omega
    have w2 : IntKind.u16.wrap (2 * a + 2) = X := by rw [v16_mod]; omega
    have w3 : IntKind.u16.wrap (b + 1) = Y := by rw [v16_mod]; omega
    have w4 : IntKind.u16.wrap ((X : Int) + Y) = ((X + Y : Nat) : Int) := by rw [v16_mod]; omega
    have hp := mvF_bd kk f (X : Int)
    have hq := mvT_bd kk t (X : Int) t0 t1
    have hA := fun W Q => vapply_ok kk hk5 f t ((X + Y : Nat) : Int) f0 f1 t0 t1 (by omega) (by omega) ad n c z hn0 (by omega) W Q
    have hO := fun W Q => vapply_ok kk hk5 f t (X : Int) f0 f1 t0 t1 (by omega) (by omega) ad n c z hn0 (by omega) W Q
    have hE := fun W => vends_any kk f t (X : Int) f0 f1 t0 t1 (by omega) (by omega) W
    have eX : cntP (X : Int) = X := by unfold cntP; rw [if_neg (by omega)]
    rw [eX, if_pos hk5] at hE
    have hS := fun c2 g2 z2 W Q => vapply_ok kk hk5 (mvF kk f (X : Int)) (mvT kk t (X : Int)) (Y : Int) hp.1 hp.2 hq.1 hq.2 (by omega) (by omega) ⟨g2, 0, none⟩ n c2 z2 hn0 (by omega) W Q
    unfold ApplyR at hA hO hS
    rw [cntP_nat _ (by omega)] at hA hO
    have hSc := cntP_nat Y (by omega)
    simp only [hSc] at hS
    have hM := mvM_add kk f t n X hX2 Y z
    have HM := Lib.hid hM
    generalize mvF kk f (X : Int) = p at *
    generalize mvT kk t (X : Int) = q at *
    clear hM hX2 hkk
    go_enter Tryd.func10, Tryd.ntmps10
    go_wp2_with fail
    refine (live26 HT.out).mono ?_
    rintro e w0 ⟨rfl, b0⟩
    have HB0 := Lib.hid b0
    clear b0
    go_wp2_with fail
    refine (hA _ (HR.out.keep HB0.out)).mono ?_
    rintro e w1 ⟨g1, c1, rfl, hc1, hm1, R1, hg1, b⟩
    have HB1 := Lib.hid (HB0.out.trans (b.mono HB0.out.size))
    have HR1 := Lib.hid R1
    clear b R1
    go_wp2_with fail
    refine (hO _ (HR.out.keep HB1.out)).mono ?_
    rintro e w2 ⟨g2, c2, rfl, hc2, hm2, R2, hg2, b⟩
    have HB2 := Lib.hid (HB1.out.trans (b.mono HB1.out.size))
    have HR12 := Lib.hid (HR1.out.keep b)
    have HR2 := Lib.hid R2
    clear b R2
    go_wp2_with fail
    refine (hE _).mono ?_
    rintro e w3 ⟨rfl, b⟩
    have HB3 := Lib.hid (HB2.out.trans (b.mono HB2.out.size))
    have HR13 := Lib.hid (HR12.out.keep b)
    have HR23 := Lib.hid (HR2.out.keep b)
    clear b
    go_wp2_with fail
    refine (hS c2 g2 _ _ HR23.out).mono ?_
    rintro e w4 ⟨g3, c3, rfl, hc3, hm3, R3, hg3, b⟩
    have HB4 := Lib.hid (HB3.out.trans (b.mono HB3.out.size))
    have HR14 := Lib.hid (HR13.out.keep b)
    have HR3 := Lib.hid R3
    clear b R3
    go_wp2_with fail
    refine (asame2 (by unfold maxLen; omega) HR14.out HR3.out (fun i _ => congrFun HM.out i)).mono ?_
    rintro e w5 ⟨rfl, b⟩
    have HB5 := Lib.hid (HB4.out.trans (b.mono HB4.out.size))
    clear b
    go_wp2_with fail
    go_ret
    exact ⟨rfl, HB5.out⟩

theorem own : ownKnob Tryd.prog.godebug = none := by kernel_rfl
theorem laidOut : laidOutB Tryd.prog = true := by kernel_rfl
theorem door_met (os : Os) (args : Array Value) : laidMetH Tryd.prog laid2 ((World.doorLaid Tryd.prog 400 os).forCall (fun _ _ => 0) ⟨#[], args, []⟩).memory :=
  laidMetH_of_parts3 (fuel := 8) (laidMet_of_run' 8 (by kernel_rfl) (by kernel_rfl)) (by kernel_rfl) (by kernel_rfl)
set_option maxRecDepth 100000 in
theorem lifted (os : Os) (started : os.Started) (H : Type) (enc : TypeId × Value → H) :
    ReturnsInHanded {} Tryd.checked os 10 .any (fun w args => (Rows.movesPartsSpec.pre enc Tryd.prog Tryd.f10 [] false w args ∧ laidMetH Tryd.prog laid2 w) ∧ sizedMet enc Tryd.prog Tryd.f10 (OpenSpec.ofChange Rows.movesPartsSpec) false w args)
      (Rows.movesPartsSpec.post enc Tryd.prog Tryd.f10 false true false false) := by
  refine returnsInHanded_of_change_and (C := Tryd.checked) (X := fun w _ => laidMetH Tryd.prog laid2 w) (fun _ _ _ hh h => h.of_heap hh) own started (by kernel_rfl) Tryd.func10
    (ChangeSpec.witness_shaped (enc := enc) (C := Tryd.checked) (os := os) (X := fun w _ => laidMetH Tryd.prog laid2 w) false (World.doorLaid Tryd.prog 400 os) #[.int .u8 0, .int .u16 0, .int .u16 0, .int .u8 0, .int .u8 0, .slice none 0 0] 8 rfl (World.shaped_of_RefB (by kernel_rfl) (by kernel_rfl)) (by kernel_rfl) (by kernel_rfl) (by kernel_rfl) (door_met os _)) ?_
  intro W base args ds gs before hval0 hW _ _ hL0 _
  have hL : laidMetH Tryd.prog laid2 W := hL0
  rw [MakeChecks.laidMetH_plain _ _ _ (by kernel_rfl)] at hL
  have HT := of_laid hL
  have hval : ∀ (j : Nat) t v, Tryd.f10.params[j]? = some t → args[j]? = some v → Value.okWide Tryd.prog W .any base t v := hval0
  have hW' := hW
  obtain ⟨p, q, hA0, hV, rfl, _, _⟩ := hW
  have hA : DataW.TrodAll enc Tryd.prog W 0 (fun _ => true) true Tryd.f10.params.toList args.toList ds p := hA0
  rw [Tryd.params10] at hA hval
  obtain ⟨v0, vs0, d0, ds0, p0, q0, hargs, rfl, rfl, h0, r0⟩ := trodAll_cons hA
  obtain ⟨v1, vs1, d1, ds1, p1, q1, rfl, rfl, rfl, h1, r1⟩ := trodAll_cons r0
  obtain ⟨v2, vs2, d2, ds2, p2, q2, rfl, rfl, rfl, h2, r2⟩ := trodAll_cons r1
  obtain ⟨v3, vs3, d3, ds3, p3, q3, rfl, rfl, rfl, h3, r3⟩ := trodAll_cons r2
  obtain ⟨v4, vs4, d4, ds4, p4, q4, rfl, rfl, rfl, h4, r4⟩ := trodAll_cons r3
  obtain ⟨v5, vs5, d5, ds5, p5, q5, rfl, rfl, rfl, h5, r5⟩ := trodAll_cons r4
  obtain ⟨rfl, rfl, rfl⟩ := trodAll_nil r5
  obtain rfl : args = #[v0, v1, v2, v3, v4, v5] := by cases args; simp_all
  obtain ⟨rfl, rfl⟩ := trodVars_none hV
  obtain ⟨a0, rfl, rfl, rfl, w0⟩ := open_int Tryd.underlying5 (hval 0 5 v0 rfl rfl) h0
  obtain ⟨a1, rfl, rfl, rfl, w1⟩ := open_int Tryd.underlying22 (hval 1 22 v1 rfl rfl) h1
  obtain ⟨a2, rfl, rfl, rfl, w2⟩ := open_int Tryd.underlying22 (hval 2 22 v2 rfl rfl) h2
  obtain ⟨a3, rfl, rfl, rfl, w3⟩ := open_int Tryd.underlying5 (hval 3 5 v3 rfl rfl) h3
  obtain ⟨a4, rfl, rfl, rfl, w4⟩ := open_int Tryd.underlying5 (hval 4 5 v4 rfl rfl) h4
  obtain ⟨A5, n5, c5, z5, rfl, g5, m5, R5⟩ := slice_ints Tryd.underlying26 Tryd.underlying5 (by kernel_rfl) (hval 5 26 v5 rfl rfl) h5
  clear hA0 hval0
  refine (walk a0 w0 a1 w1 a2 w2 a3 w3 a4 w4 A5 n5 c5 z5 g5 m5 R5 HT).mono fun e W' ⟨he, hg⟩ => ?_
  subst he
  exact ⟨_, rfl, law_post rfl Tryd.underlying4 laidOut (by kernel_rfl) rfl hW' rfl hg⟩

theorem over : Rows.movesPartsRow.holds Tryd.pinned (OpenSpec.ofChange Rows.movesPartsSpec) :=
  OpenClaim.holds_of_wide 10 Tryd.f10 rfl rfl rfl rfl rfl rfl rfl ⟨rfl, rfl, rfl, rfl, rfl⟩ rfl rfl rfl rfl rfl (by kernel_rfl) Tryd.func10 (by kernel_rfl)
    (of_decide_eq_true (by kernel_rfl)) (by unfold Func.isWrapper; first | (rw [if_pos (by decide +kernel)]; kernel_rfl) | (rw [if_neg (by decide +kernel)]; exact ⟨rfl, rfl⟩))
    (fun os started H enc _ => lifted os started H enc)

theorem proved : Rows.MovesPartsCardSaid :=
  Claim7.holds_tied_plain_at .later [] [.data] true _ false
    over (fun _ h => by cases h) (by kernel_rfl) (fun _ h => by cases h) movesParts_row_tie rfl ⟨rfl, rfl⟩ (by kernel_rfl) rfl
    (fun f fn hf hfn => by
      obtain rfl : f = 10 := Option.some.inj ((show Tryd.prog.funcNamed "gannet/gannetlaw26.MovesParts" = some 10 by kernel_rfl).symm.trans hf) |>.symm
      obtain rfl : fn = Tryd.f10 := (Option.some.inj (Tryd.func10.symm.trans hfn)).symm
      exact ⟨by kernel_rfl, fun j t ht => by
        rw [Tryd.params10] at ht
        have hm : t ∈ [5, 22, 22, 5, 5, 26] := by simpa using Array.mem_of_getElem? ht
        have hall : ([5, 22, 22, 5, 5, 26].all fun u => !Tryd.prog.wantsStandIn u) = true := by kernel_rfl
        exact (show Tryd.prog.wantsStandIn t = false by simpa using List.all_eq_true.1 hall t hm)⟩)
    (by kernel_rfl)
#print axioms proved
end Go.Proofs.YtdfjpdcnjjgljaaDoor.movesParts
