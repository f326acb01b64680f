/-
  For every input MixTurns returns true, and each argument reads behind the call as it read before. The one condition: when the call begins the package-level variables that the row lists hold what the program lays in them (TIED: the card shows it of the text of the project, pruned to the packages that this seat loads).
-/
import Derived.Test.YtaamfcbpelbboaaDoorRows
import Derived.Test.YtaamfcbpelbboaaDoorG3
import Derived.SevenTiedAt
import Derived.ProofKit
import Derived.LaidMore
import Derived.OpenShut
import Derived.Stop.Joined
import Derived.Test.YtaamfcbpelbboaaDoorCards
import Derived.Test.YtaamfcbpelbboaaDoorTie
import Derived.Test.YtaamfcbpelbboaaDoorLaid8
namespace Go.Proofs.YtaamfcbpelbboaaDoor.mixTurns
open Go.ChangeShapes Go.WideShapes Go.ChangeAt Go.RowKit
open Go.ChangeMaps (open_string)

set_option linter.unusedVariables false
set_option linter.unusedSimpArgs false
set_option maxRecDepth 100000 in
set_option maxHeartbeats 8000000 in
theorem walk {W : World} (A0 : Option Addr) (n0 c0 : Nat) (q0 : Nat → Nat → Value) (hnc : n0 ≤ c0) (hm : c0 ≤ maxLen) (R0 : FRow W 4 A0 n0 q0) (F0 : ∀ i, i < n0 → ∀ (j : Nat) (k : FK), [FK.int .u8, .int .u8, .int .u8, .int .u8][j]? = some k → k.ok (q0 i j)) (l : Int) (wl : (Lit.int .u8 l).wf = true) (r : Int) (wr : (Lit.int .u8 r).wf = true) (hT : Tabs W) :
    Calls Tryd.prog 5 #[.slice A0 n0 c0, .int .u8 l, .int .u8 r] W fun e w' => e = .returned (.bool true) ∧ Below W.heap.size W w' := by
  unfold maxLen at hm
  obtain ⟨l0, l1⟩ := bounds_u8 wl
  obtain ⟨r0, r1⟩ := bounds_u8 wr
  obtain ⟨v, hv⟩ := vr_of R0 F0
  have HV := Lib.hid hv
  have HT := Lib.hid hT
  clear hT wl wr R0 F0 hv
  by_cases h1 : 300 < n0
  · have j1 : (300 : Int) < n0 := by omega
    go_enter Tryd.func5, Tryd.ntmps5
    go_wp2_with fail
    refine (liveM_any HT.out).mono ?_
    rintro e w0 ⟨rfl, b0⟩
    have HB0 := Lib.hid b0
    clear b0
    go_wp2_with fail
    go_ret
    exact ⟨rfl, HB0.out⟩
  have j1 : ¬ (300 : Int) < n0 := by omega
  have HN := Lib.hid (show n0 ≤ 300 by omega)
  go_enter Tryd.func5, Tryd.ntmps5
  go_wp2_with fail
  refine (liveM_any HT.out).mono ?_
  rintro e w0 ⟨rfl, b0⟩
  have HB0 := Lib.hid b0
  clear b0
  go_wp2_with fail
  go_loopw [7, 8] (fun o i wr => ∃ k : Nat, k ≤ n0 ∧ i = .int .i64 ((n0 : Int) - 1 - k) ∧ wr.ownsRow W.heap.size 32 4 o k (vsL (fun i => v (n0 - 1 - i)) k) ∧ Below W.heap.size W wr) (fun _ i _ => (intOf i + 1).toNat)
  case atStart => exact ⟨0, by omega, by simp, ⟨rfl, .inl ⟨rfl, rfl⟩⟩, HB0.out⟩
  case round =>
    obtain ⟨k, hk, rfl, own, hB⟩ := hrel
    have zB := hB.size
    have HB := Lib.hid hB
    by_cases hlt : k < n0
    · obtain ⟨q, hq⟩ : ∃ q, n0 - 1 - k = q := ⟨_, rfl⟩
      have hqi : (n0 : Int) - 1 - k = (q : Int) := by omega
      have hqn : q < n0 := by omega
      have HQ := Lib.hid (And.intro hq hqi)
      rw [hqi]
      clear hq hqi
      have i0 : (0 : Int) ≤ (q : Int) := by omega
      have i1 : (q : Int) < n0 := by omega
      obtain ⟨ad, rfl, hl, q0, q1, q2, q3, hok⟩ := (HV.out.keep hB).at_ q hqn
      have hN := HN.out
      obtain ⟨v', w', hrun, own', gb⟩ := more_new (P := Tryd.prog) (ty := 26) (c := 1) (m := 1) (g := wr.heap.size) Tryd.underlying26 vc_info rfl (by decide) own #[.int .u8 (v q).lv, .int .u8 (v q).vo, .int .u8 (v q).lf, .int .u8 (v q).rt] rfl (by simp [Value.oneCell']) rfl (by omega) (by omega) zB
      have hB' : Below W.heap.size W w' := (hB.alloc zB _).grown gb (by simp; omega) (fun j h => (own.lt j h).1)
      have own2 : w'.ownsRow W.heap.size 32 4 v' (k + 1) (vsL (fun i => v (n0 - 1 - i)) (k + 1)) := by
        rw [← vsL_snoc (fun i => v (n0 - 1 - i)) k (v q) (by rw [← HQ.out.1])]; exact own'
      have HO := Lib.hid own2
      have HB' := Lib.hid hB'
      clear own2 own' own hB hB' hl hok gb zB hN
      go_wp2_with (at_builtin; refine wpList_append_run rfl (.tmp 27) (.tmp 32) 26 rfl rfl rfl hrun ?_)
      go_roundw
      case rel => exact ⟨k + 1, by omega, by have := HQ.out.2; congr 1; omega, HO.out, HB'.out⟩
      case measure => simp [intOf]
    · obtain rfl : k = n0 := by omega
      have e1 : (k : Int) - 1 - k = -1 := by omega
      rw [e1]
      obtain ⟨A, c, rfl, _, hvr⟩ := own_vr own (fun i hi => HV.out.2 _ (by omega))
      have HR := Lib.hid hvr
      clear own hvr hB zB e1
      go_wp2_with fail
      refine (all_any (HT.out.keep HB.out).1 (HV.out.keep HB.out) HN.out l r l0 l1 r0 r1).mono ?_
      rintro e w1 ⟨rfl, b1⟩
      have HB1 := Lib.hid (Below.trans HB.out (b1.mono HB.out.size))
      have HR1 := Lib.hid (HR.out.keep b1)
      clear b1 HR
      go_wp2_with fail
      refine (turned_any (HT.out.keep HB1.out).1 (HV.out.keep HB1.out) HN.out l r l0 l1 r0 r1).mono ?_
      rintro e w2 ⟨rfl, b2⟩
      have HB2 := Lib.hid (Below.trans HB1.out (b2.mono HB1.out.size))
      have HR2 := Lib.hid (HR1.out.keep b2)
      clear b2 HR1 HB1
      go_wp2_with fail
      refine (all_any (HT.out.keep HB2.out).1 HR2.out HN.out l r l0 l1 r0 r1).mono ?_
      rw [back_left, back_right]
      rintro e w3 ⟨rfl, b3⟩
      have HB3 := Lib.hid (Below.trans HB2.out (b3.mono HB2.out.size))
      clear b3
      go_wp2_with fail
      go_ret
      exact ⟨rfl, HB3.out⟩

theorem own : ownKnob Tryd.prog.godebug = none := by kernel_rfl
theorem laidOut : laidOutB Tryd.prog = true := by kernel_rfl
theorem door_met (os : Os) (args : Array Value) : laidMetH Tryd.prog laid2 ((World.doorLaid Tryd.prog 400 os).forCall (fun _ _ => 0) ⟨#[], args, []⟩).memory :=
  laidMetH_of_parts3 (fuel := 8) (laidMet_of_run' 8 (by kernel_rfl) (by kernel_rfl)) (by kernel_rfl) (by kernel_rfl)
set_option maxRecDepth 100000 in
theorem lifted (os : Os) (started : os.Started) (H : Type) (enc : TypeId × Value → H) :
    ReturnsInHanded {} Tryd.checked os 5 .any (fun w args => (Rows.mixTurnsSpec.pre enc Tryd.prog Tryd.f5 [] false w args ∧ laidMetH Tryd.prog laid2 w) ∧ sizedMet enc Tryd.prog Tryd.f5 (OpenSpec.ofChange Rows.mixTurnsSpec) false w args)
      (Rows.mixTurnsSpec.post enc Tryd.prog Tryd.f5 false true false false) := by
  refine returnsInHanded_of_change_and (C := Tryd.checked) (X := fun w _ => laidMetH Tryd.prog laid2 w) (fun _ _ _ hh h => h.of_heap hh) own started (by kernel_rfl) Tryd.func5
    (ChangeSpec.witness_shaped (enc := enc) (C := Tryd.checked) (os := os) (X := fun w _ => laidMetH Tryd.prog laid2 w) false (World.doorLaid Tryd.prog 400 os) #[.slice none 0 0, .int .u8 0, .int .u8 0] 8 rfl (World.shaped_of_RefB (by kernel_rfl) (by kernel_rfl)) (by kernel_rfl) (by kernel_rfl) (by kernel_rfl) (door_met os _)) ?_
  intro W base args ds gs before hval0 hW _ _ hL0 _
  have hL : laidMetH Tryd.prog laid2 W := hL0
  rw [MakeChecks.laidMetH_plain _ _ _ (by kernel_rfl)] at hL
  have HT := of_laid hL
  have hval : ∀ (j : Nat) t v, Tryd.f5.params[j]? = some t → args[j]? = some v → Value.okWide Tryd.prog W .any base t v := hval0
  have hW' := hW
  obtain ⟨p, q, hA0, hV, rfl, _, _⟩ := hW
  have hA : DataW.TrodAll enc Tryd.prog W 0 (fun _ => true) true Tryd.f5.params.toList args.toList ds p := hA0
  rw [Tryd.params5] at hA hval
  obtain ⟨v0, vs0, d0, ds0, p0, q0, hargs, rfl, rfl, h0, r0⟩ := trodAll_cons hA
  obtain ⟨v1, vs1, d1, ds1, p1, q1, rfl, rfl, rfl, h1, r1⟩ := trodAll_cons r0
  obtain ⟨v2, vs2, d2, ds2, p2, q2, rfl, rfl, rfl, h2, r2⟩ := trodAll_cons r1
  obtain ⟨rfl, rfl, rfl⟩ := trodAll_nil r2
  obtain rfl : args = #[v0, v1, v2] := by cases args; simp_all
  obtain ⟨rfl, rfl⟩ := trodVars_none hV
  obtain ⟨A0, n0, c0, q0, rfl, g0, m0, R0, F0, N0⟩ := slice_fk _ [.int .u8, .int .u8, .int .u8, .int .u8] Tryd.underlying26 Tryd.underlying32 (by kernel_rfl) (by kernel_rfl) rfl (by decide)
    (fun j k h => match j, h with
      | 0, h => by cases h; exact ⟨_, rfl, Tryd.underlying5⟩
      | 1, h => by cases h; exact ⟨_, rfl, Tryd.underlying5⟩
      | 2, h => by cases h; exact ⟨_, rfl, Tryd.underlying5⟩
      | 3, h => by cases h; exact ⟨_, rfl, Tryd.underlying5⟩
      | j + 4, h => by simp at h) (hval 0 26 v0 rfl rfl) h0
  obtain ⟨a1, rfl, rfl, rfl, w1⟩ := open_int Tryd.underlying5 (hval 1 5 v1 rfl rfl) h1
  obtain ⟨a2, rfl, rfl, rfl, w2⟩ := open_int Tryd.underlying5 (hval 2 5 v2 rfl rfl) h2
  clear hA0 hval0
  refine (walk A0 n0 c0 q0 g0 m0 R0 F0 a1 w1 a2 w2 HT).mono fun e W' ⟨he, hg⟩ => ?_
  subst he
  exact ⟨_, rfl, law_post rfl Tryd.underlying4 laidOut (by kernel_rfl) rfl hW' rfl hg⟩

theorem over : Rows.mixTurnsRow.holds Tryd.pinned (OpenSpec.ofChange Rows.mixTurnsSpec) :=
  OpenClaim.holds_of_wide 5 Tryd.f5 rfl rfl rfl rfl rfl rfl rfl ⟨rfl, rfl, rfl, rfl, rfl⟩ rfl rfl rfl rfl rfl (by kernel_rfl) Tryd.func5 (by kernel_rfl)
    (of_decide_eq_true (by kernel_rfl)) (by unfold Func.isWrapper; first | (rw [if_pos (by decide +kernel)]; kernel_rfl) | (rw [if_neg (by decide +kernel)]; exact ⟨rfl, rfl⟩))
    (fun os started H enc _ => lifted os started H enc)

theorem proved : Rows.MixTurnsCardSaid :=
  Claim7.holds_tied_plain_at .later [] [.data, .data] true _ false
    over (fun _ h => by cases h) (by kernel_rfl) (fun _ h => by cases h) mixTurns_row_tie rfl ⟨rfl, rfl⟩ (by kernel_rfl) rfl
    (fun f fn hf hfn => by
      obtain rfl : f = 5 := Option.some.inj ((show Tryd.prog.funcNamed "gannet/gannetlaw16.MixTurns" = some 5 by kernel_rfl).symm.trans hf) |>.symm
      obtain rfl : fn = Tryd.f5 := (Option.some.inj (Tryd.func5.symm.trans hfn)).symm
      exact ⟨by kernel_rfl, fun j t ht => by
        rw [Tryd.params5] at ht
        have hm : t ∈ [26, 5, 5] := by simpa using Array.mem_of_getElem? ht
        have hall : ([26, 5, 5].all fun u => !Tryd.prog.wantsStandIn u) = true := by kernel_rfl
        exact (show Tryd.prog.wantsStandIn t = false by simpa using List.all_eq_true.1 hall t hm)⟩)
    (by kernel_rfl)
#print axioms proved
end Go.Proofs.YtaamfcbpelbboaaDoor.mixTurns
