/-
  For every input TopProduct returns true, and each argument reads behind the call as it read before. The one condition: when the call begins the package-level variables that the row lists hold what the program lays in them (TIED: the card shows it of the text of the project, pruned to the packages that this seat loads).
-/
import Derived.Test.YtkmcfmflihkdjaaDoorRows
import Derived.Test.YtkmcfmflihkdjaaDoorG3
import Derived.SevenTiedAt
import Derived.ProofKit
import Derived.LaidMore
import Derived.OpenShut
import Derived.Stop.Joined
import Derived.Test.YtkmcfmflihkdjaaDoorCards
import Derived.Test.YtkmcfmflihkdjaaDoorTie
import Derived.Test.YtkmcfmflihkdjaaDoorPrd1
namespace Go.Proofs.YtkmcfmflihkdjaaDoor.topProduct
open Go.ChangeShapes Go.WideShapes Go.ChangeAt Go.RowKit
open Go.ChangeMaps (open_string)

set_option linter.unusedVariables false
set_option linter.unusedSimpArgs false
set_option maxRecDepth 100000 in
set_option maxHeartbeats 8000000 in
theorem walk (a : Int) (wa : (Lit.int .u8 a).wf = true) (b : Int) (wb : (Lit.int .u8 b).wf = true) (W : World) (hT : Tabs W) :
    Calls Tryd.prog 3 #[.int .u8 a, .int .u8 b] W fun e w' => e = .returned (.bool true) ∧ Below W.heap.size W w' := by
  obtain ⟨a0, a1⟩ := bounds_u8 wa
  obtain ⟨b0, b1⟩ := bounds_u8 wb
  have HT : Hid (Tab8 W 0) := Lib.hid hT
  have A0 := Lib.hid a0
  have A1 := Lib.hid a1
  have CC := Lib.hid (fun w => acompare_any 5 5 0 w (by decide) (by decide) (by decide) (by decide))
  rw [show flR (flS 0 1 (decide ((5 : Int) ≤ 5))) ((5 - 5) % 256) = 3 by decide +kernel] at CC
  clear hT wa wb
  go_enter Tryd.func3, Tryd.ntmps3
  go_wp2_with fail
  refine (bit_any 1 0 _).mono ?_
  rw [show bitB 1 0 = true by decide +kernel]
  rintro e w' ⟨rfl, rfl⟩
  go_wp2_with fail
  go_loopw [5, 6, 7, 8] (fun l h q i wr => ∃ (k : Nat) (lo hi p : Int), k ≤ 8 ∧ i = .int .i64 k ∧ l = .int .u8 lo ∧ h = .int .u8 hi ∧ q = .int .u8 p ∧ 0 ≤ lo ∧ lo ≤ 255 ∧ 0 ≤ hi ∧ hi ≤ 255 ∧ hi * 256 + lo = prV a b k ∧ Below W.heap.size W wr) (fun _ _ _ i _ => 8 - (intOf i).toNat)
  case atStart => exact ⟨0, a, 0, 0, by omega, rfl, rfl, rfl, rfl, a0, a1, by decide, by decide, by rw [prV_0]; omega, Below.refl _ _⟩
  case round =>
    obtain ⟨k, lo, hi, p, hk, rfl, rfl, rfl, rfl, l0, l1, h0, h1, hV, hB⟩ := hrel
    have HB := Lib.hid hB
    have HV := Lib.hid hV
    clear hB hV
    by_cases hlt : k < 8
    · obtain ⟨t, ht⟩ : ∃ t, a / 2 ^ k % 2 = t := ⟨_, rfl⟩
      obtain ⟨v1, v2⟩ := prV_step a b t k hlt A0.out ht
      rw [← HV.out] at v1 v2
      have tl : lo % 2 = t := by omega
      have t01 : t = 0 ∨ t = 1 := by omega
      clear v1 ht
      have V2 := Lib.hid v2
      clear v2
      obtain ⟨_, sb⟩ := pr_sr lo false l0 l1
      have I1 := fun w => fis_any (lgR (flS 0 1 (bitB lo 0)) (srV lo false)) 1 w
      have f1 : flI (lgR (flS 0 1 (bitB lo 0)) (srV lo false)) 1 = decide (t = 1) := by rw [pr_flags, sb, tl]
      rw [f1] at I1
      have LS := fun w => llsr_any lo 0 w
      obtain ⟨y1, hy1⟩ : ∃ y, lgR (flS 0 1 (bitB lo 0)) (srV lo false) = y := ⟨_, rfl⟩
      obtain ⟨z1, hz1⟩ : ∃ z, srV lo false = z := ⟨_, rfl⟩
      rw [hy1] at LS I1
      rw [hz1] at LS
      have HLS := Lib.hid LS
      clear LS hy1 hz1 sb f1
      -- the two turns to the right, of any byte h, with a carry c
      have turn : ∀ (h q : Int) (c : Bool), 0 ≤ h → h ≤ 255 → 0 ≤ q → q ≤ 255 → flI q 1 = c → ∃ (h2 q2 l2 q3 : Int), (∀ w, Calls Tryd.prog 8 #[.int .u8 h, .int .u8 q] w fun e w' => e = .returned (.tuple #[.int .u8 h2, .int .u8 q2]) ∧ Below w.heap.size w w') ∧
          (∀ w, Calls Tryd.prog 8 #[.int .u8 lo, .int .u8 q2] w fun e w' => e = .returned (.tuple #[.int .u8 l2, .int .u8 q3]) ∧ Below w.heap.size w w') ∧ 0 ≤ h2 ∧ h2 ≤ 255 ∧ 0 ≤ l2 ∧ l2 ≤ 255 ∧ h2 * 256 + l2 = 128 * (h + (if c then 256 else 0)) + lo / 2 := by
        intro h q c hh0 hh1 hq0 hq1 hc
        have R1 := fun w => lror_any h q w
        rw [hc] at R1
        obtain ⟨e1, e2⟩ := pr_sr h c hh0 hh1
        have f1 := pr_flagp q (srV h c) (bitB h 0) hq0 hq1
        have R2 := fun w => lror_any lo (lgR (flS q 1 (bitB h 0)) (srV h c)) w
        rw [f1] at R2
        obtain ⟨e3, _⟩ := pr_sr lo (bitB h 0) l0 l1
        refine ⟨_, _, _, _, R1, R2, ?_, ?_, ?_, ?_, ?_⟩
        · rw [e1]; split <;> omega
        · rw [e1]; split <;> omega
        · rw [e3]; split <;> omega
        · rw [e3]; split <;> omega
        · rw [e1, e3, e2]
          by_cases x : h % 2 = 1
          · rw [decide_eq_true x]; cases c <;> simp <;> omega
          · rw [decide_eq_false x]; cases c <;> simp <;> omega
      rcases t01 with rfl | rfl
      · rw [show decide ((0 : Int) = 1) = false from rfl] at I1
        have HI := Lib.hid I1
        obtain ⟨h2, q2, l2, q3, R1, R2, n1, n2, n3, n4, n5⟩ := turn hi 0 false h0 h1 (by decide) (by decide) (by decide +kernel)
        have HR1 := Lib.hid R1
        have HR2 := Lib.hid R2
        have HN := Lib.hid n5
        clear I1 turn R1 R2 n5
        go_wp2_with fail
        refine (HLS.out _).mono ?_
        rintro e w1 ⟨rfl, b1⟩
        have HB1 := Lib.hid (HB.out.trans (b1.mono HB.out.size))
        clear b1
        go_wp2_with fail
        refine (HI.out _).mono ?_
        rintro e w2 ⟨rfl, b2⟩
        have HB2 := Lib.hid (HB1.out.trans (b2.mono HB1.out.size))
        clear b2
        go_wp2_with fail
        refine (HR1.out _).mono ?_
        rintro e w3 ⟨rfl, b3⟩
        have HB3 := Lib.hid (HB2.out.trans (b3.mono HB2.out.size))
        clear b3
        go_wp2_with fail
        refine (HR2.out _).mono ?_
        rintro e w4 ⟨rfl, b4⟩
        have HB4 := Lib.hid (HB3.out.trans (b4.mono HB3.out.size))
        clear b4
        go_wp2_with fail
        go_roundw
        case rel => exact ⟨k + 1, l2, h2, q3, by omega, by go_num, rfl, rfl, rfl, n3, n4, n1, n2, by rw [HN.out, V2.out]; simp; omega, HB4.out⟩
        case measure => simp [intOf]; omega
      · rw [show decide ((1 : Int) = 1) = true from rfl] at I1
        have HI := Lib.hid I1
        obtain ⟨d1, d2, d3, d4⟩ := pr_add hi b
        have AD := fun w => aAdd_any hi b 0 w h0 h1 b0 b1
        rw [d1] at AD
        obtain ⟨s, hs⟩ : ∃ s, (hi + b) % 256 = s := ⟨_, rfl⟩
        obtain ⟨u, hu⟩ : ∃ u, adP hi b 0 = u := ⟨_, rfl⟩
        rw [hs, hu] at AD
        rw [hu] at d2 d3 d4
        obtain ⟨h2, q2, l2, q3, R1, R2, n1, n2, n3, n4, n5⟩ := turn s u _ (by omega) (by omega) d3 d4 d2
        have n6 : s + (if decide (255 < hi + b) = true then (256 : Int) else 0) = hi + b := by
          by_cases x : 255 < hi + b
          · rw [decide_eq_true x, if_pos rfl]; omega
          · rw [decide_eq_false x, if_neg (by decide)]; omega
        rw [n6] at n5
        have HR1 := Lib.hid R1
        have HR2 := Lib.hid R2
        have HN := Lib.hid n5
        have HAD := Lib.hid AD
        clear I1 turn R1 R2 n5 n6 AD hs hu d1 d2 d3 d4
        go_wp2_with fail
        refine (HLS.out _).mono ?_
        rintro e w1 ⟨rfl, b1⟩
        have HB1 := Lib.hid (HB.out.trans (b1.mono HB.out.size))
        clear b1
        go_wp2_with fail
        refine (HI.out _).mono ?_
        rintro e w2 ⟨rfl, b2⟩
        have HB2 := Lib.hid (HB1.out.trans (b2.mono HB1.out.size))
        clear b2
        go_wp2_with fail
        refine (HAD.out _).mono ?_
        rintro e w5 ⟨rfl, b5⟩
        have HB5 := Lib.hid (HB2.out.trans (b5.mono HB2.out.size))
        clear b5
        go_wp2_with fail
        refine (HR1.out _).mono ?_
        rintro e w3 ⟨rfl, b3⟩
        have HB3 := Lib.hid (HB5.out.trans (b3.mono HB5.out.size))
        clear b3
        go_wp2_with fail
        refine (HR2.out _).mono ?_
        rintro e w4 ⟨rfl, b4⟩
        have HB4 := Lib.hid (HB3.out.trans (b4.mono HB3.out.size))
        clear b4
        go_wp2_with fail
        go_roundw
        case rel => exact ⟨k + 1, l2, h2, q3, by omega, by go_num, rfl, rfl, rfl, n3, n4, n1, n2, by rw [HN.out, V2.out, Int.one_mul]; omega, HB4.out⟩
        case measure => simp [intOf]; omega
    · obtain rfl : k = 8 := by omega
      have hv := HV.out
      rw [prV_8 a b A0.out A1.out] at hv
      obtain ⟨m, hm⟩ : ∃ m, a * b = m := ⟨_, rfl⟩
      rw [hm] at hv
      have tn := txt_em p
      have HT2 := Lib.hid (HT.out.below HB.out)
      have m0 : 0 ≤ m := by omega
      have m1 : m ≤ 65535 := by omega
      go_wp2_with fail
      refine (CC.out _).mono ?_
      rintro e w' ⟨rfl, rfl⟩
      go_wp2_with fail
      refine (ftext_any HT2.out p).mono ?_
      rintro e w1 ⟨rfl, b1⟩
      have HB1 := Lib.hid (HB.out.trans (b1.mono HB.out.size))
      clear b1
      go_wp2_with fail
      go_ret
      exact ⟨rfl, HB1.out⟩

theorem own : ownKnob Tryd.prog.godebug = none := by kernel_rfl
theorem laidOut : laidOutB Tryd.prog = true := by kernel_rfl
theorem door_met (os : Os) (args : Array Value) : laidMetH Tryd.prog laid2 ((World.doorLaid Tryd.prog 400 os).forCall (fun _ _ => 0) ⟨#[], args, []⟩).memory :=
  laidMetH_of_parts3 (fuel := 8) (laidMet_of_run' 8 (by kernel_rfl) (by kernel_rfl)) (by kernel_rfl) (by kernel_rfl)
set_option maxRecDepth 100000 in
theorem lifted (os : Os) (started : os.Started) (H : Type) (enc : TypeId × Value → H) :
    ReturnsInHanded {} Tryd.checked os 3 .any (fun w args => (Rows.topProductSpec.pre enc Tryd.prog Tryd.f3 [] false w args ∧ laidMetH Tryd.prog laid2 w) ∧ sizedMet enc Tryd.prog Tryd.f3 (OpenSpec.ofChange Rows.topProductSpec) false w args)
      (Rows.topProductSpec.post enc Tryd.prog Tryd.f3 false true false false) := by
  refine returnsInHanded_of_change_and (C := Tryd.checked) (X := fun w _ => laidMetH Tryd.prog laid2 w) (fun _ _ _ hh h => h.of_heap hh) own started (by kernel_rfl) Tryd.func3
    (ChangeSpec.witness_shaped (enc := enc) (C := Tryd.checked) (os := os) (X := fun w _ => laidMetH Tryd.prog laid2 w) false (World.doorLaid Tryd.prog 400 os) #[.int .u8 0, .int .u8 0] 8 rfl (World.shaped_of_RefB (by kernel_rfl) (by kernel_rfl)) (by kernel_rfl) (by kernel_rfl) (by kernel_rfl) (door_met os _)) ?_
  intro W base args ds gs before hval0 hW _ _ hL0 _
  have hL : laidMetH Tryd.prog laid2 W := hL0
  rw [MakeChecks.laidMetH_plain _ _ _ (by kernel_rfl)] at hL
  have HT := of_laid hL
  have hval : ∀ (j : Nat) t v, Tryd.f3.params[j]? = some t → args[j]? = some v → Value.okWide Tryd.prog W .any base t v := hval0
  have hW' := hW
  obtain ⟨p, q, hA0, hV, rfl, _, _⟩ := hW
  have hA : DataW.TrodAll enc Tryd.prog W 0 (fun _ => true) true Tryd.f3.params.toList args.toList ds p := hA0
  rw [Tryd.params3] at hA hval
  obtain ⟨v0, vs0, d0, ds0, p0, q0, hargs, rfl, rfl, h0, r0⟩ := trodAll_cons hA
  obtain ⟨v1, vs1, d1, ds1, p1, q1, rfl, rfl, rfl, h1, r1⟩ := trodAll_cons r0
  obtain ⟨rfl, rfl, rfl⟩ := trodAll_nil r1
  obtain rfl : args = #[v0, v1] := by cases args; simp_all
  obtain ⟨rfl, rfl⟩ := trodVars_none hV
  obtain ⟨a0, rfl, rfl, rfl, w0⟩ := open_int Tryd.underlying5 (hval 0 5 v0 rfl rfl) h0
  obtain ⟨a1, rfl, rfl, rfl, w1⟩ := open_int Tryd.underlying5 (hval 1 5 v1 rfl rfl) h1
  clear hA0 hval0
  refine (walk a0 w0 a1 w1 W HT).mono fun e W' ⟨he, hg⟩ => ?_
  subst he
  exact ⟨_, rfl, law_post rfl Tryd.underlying4 laidOut (by kernel_rfl) rfl hW' rfl hg⟩

theorem over : Rows.topProductRow.holds Tryd.pinned (OpenSpec.ofChange Rows.topProductSpec) :=
  OpenClaim.holds_of_wide 3 Tryd.f3 rfl rfl rfl rfl rfl rfl rfl ⟨rfl, rfl, rfl, rfl, rfl⟩ rfl rfl rfl rfl rfl (by kernel_rfl) Tryd.func3 (by kernel_rfl)
    (of_decide_eq_true (by kernel_rfl)) (by unfold Func.isWrapper; first | (rw [if_pos (by decide +kernel)]; kernel_rfl) | (rw [if_neg (by decide +kernel)]; exact ⟨rfl, rfl⟩))
    (fun os started H enc _ => lifted os started H enc)

theorem proved : Rows.TopProductCardSaid :=
  Claim7.holds_tied_plain_at .later [] [.data] true _ false
    over (fun _ h => by cases h) (by kernel_rfl) (fun _ h => by cases h) topProduct_row_tie rfl ⟨rfl, rfl⟩ (by kernel_rfl) rfl
    (fun f fn hf hfn => by
      obtain rfl : f = 3 := Option.some.inj ((show Tryd.prog.funcNamed "gannet/gannettop.TopProduct" = some 3 by kernel_rfl).symm.trans hf) |>.symm
      obtain rfl : fn = Tryd.f3 := (Option.some.inj (Tryd.func3.symm.trans hfn)).symm
      exact ⟨by kernel_rfl, fun j t ht => by
        rw [Tryd.params3] at ht
        have hm : t ∈ [5, 5] := by simpa using Array.mem_of_getElem? ht
        have hall : ([5, 5].all fun u => !Tryd.prog.wantsStandIn u) = true := by kernel_rfl
        exact (show Tryd.prog.wantsStandIn t = false by simpa using List.all_eq_true.1 hall t hm)⟩)
    (by kernel_rfl)
#print axioms proved
end Go.Proofs.YtkmcfmflihkdjaaDoor.topProduct
