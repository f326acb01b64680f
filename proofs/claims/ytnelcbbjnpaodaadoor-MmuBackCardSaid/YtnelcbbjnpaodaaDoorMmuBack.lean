/-
  For every input MmuBack returns true, and each argument reads behind the call as it read before. The one condition: when the call begins the package-level variables that the row lists hold what the program lays in them (TIED: the card shows it of the text of the project, pruned to the packages that this seat loads).
-/
import Derived.Test.YtnelcbbjnpaodaaDoorRows
import Derived.Test.YtnelcbbjnpaodaaDoorG3
import Derived.SevenTiedAt
import Derived.ProofKit
import Derived.LaidMore
import Derived.OpenShut
import Derived.Stop.Joined
import Derived.Test.YtnelcbbjnpaodaaDoorCards
import Derived.Test.YtnelcbbjnpaodaaDoorTie
import Derived.Test.YtnelcbbjnpaodaaDoorLaid9
import Derived.Test.YtnelcbbjnpaodaaDoorG27
namespace Go.Proofs.YtnelcbbjnpaodaaDoor.mmuBack
open Go.ChangeShapes Go.WideShapes Go.ChangeAt Go.RowKit
open Go.ChangeMaps (open_string)

set_option linter.unusedVariables false
set_option linter.unusedSimpArgs false
theorem wthL_one : ∀ x : Fin 8, wthL (fun i => bitB ((2 : Int) ^ x.val) (i : Int)) 8 = [x] := by decide +kernel
theorem getI_one (y : Nat → Int) (l : Int) {k : Nat} (hk : k < 8) : getI y l ((2 : Int) ^ k) = y k := by
  unfold getI
  rw [wthL_one ⟨k, hk⟩]
  rfl
set_option maxRecDepth 100000 in
set_option maxHeartbeats 8000000 in
theorem walk (z : Nat → Int) (uz : ∀ i, (Lit.int .u8 (z i)).wf = true) (m : Int) (wm : (Lit.int .u8 m).wf = true) (b : Int) (wb : (Lit.int .u8 b).wf = true) (W : World) (hT : Tabs W) :
    Calls Tryd.prog 5 #[.agg (vArr 8 fun i => .int .u8 (z i)), .int .u8 m, .int .u8 b] W fun e w' => e = .returned (.bool true) ∧ Below W.heap.size W w' := by
  obtain ⟨m0, m1⟩ := bounds_u8 wm
  have HT := Lib.hid hT
  clear hT wm wb uz
  show Calls Tryd.prog 5 #[.agg #[.int .u8 (z 0), .int .u8 (z 1), .int .u8 (z 2), .int .u8 (z 3), .int .u8 (z 4), .int .u8 (z 5), .int .u8 (z 6), .int .u8 (z 7)], .int .u8 m, .int .u8 b] W _
  have hB1 : Below W.heap.size W (W.alloc (.cells #[.int .u8 (z 0), .int .u8 (z 1), .int .u8 (z 2), .int .u8 (z 3), .int .u8 (z 4), .int .u8 (z 5), .int .u8 (z 6), .int .u8 (z 7)] 22)) := (Below.refl _ W).alloc (Nat.le_refl _) _
  have hx1 : Blk (W.alloc (.cells #[.int .u8 (z 0), .int .u8 (z 1), .int .u8 (z 2), .int .u8 (z 3), .int .u8 (z 4), .int .u8 (z 5), .int .u8 (z 6), .int .u8 (z 7)] 22)) W.heap.size 22 (p8 z) := Blk.new_ rfl
  have HB1 := Lib.hid hB1
  have HX1 := Lib.hid hx1
  clear hB1 hx1
  go_enter Tryd.func5, Tryd.ntmps5
  go_wp2_with fail
  refine (live18 (HT.out.below HB1.out)).mono ?_
  rintro e w2 ⟨rfl, k2⟩
  have hx2 := HX1.out.below k2 HX1.out.lt
  have HB2 := Lib.hid (HB1.out.trans (k2.mono HB1.out.size))
  have c0 : w2.cell? ⟨W.heap.size, 0, none⟩ = some (.int .u8 (z 0)) := hx2.cell 0
  have c1 : w2.cell? ⟨W.heap.size, 1, none⟩ = some (.int .u8 (z 1)) := hx2.cell 1
  have c2 : w2.cell? ⟨W.heap.size, 2, none⟩ = some (.int .u8 (z 2)) := hx2.cell 2
  have c3 : w2.cell? ⟨W.heap.size, 3, none⟩ = some (.int .u8 (z 3)) := hx2.cell 3
  have c4 : w2.cell? ⟨W.heap.size, 4, none⟩ = some (.int .u8 (z 4)) := hx2.cell 4
  have c5 : w2.cell? ⟨W.heap.size, 5, none⟩ = some (.int .u8 (z 5)) := hx2.cell 5
  have c6 : w2.cell? ⟨W.heap.size, 6, none⟩ = some (.int .u8 (z 6)) := hx2.cell 6
  have c7 : w2.cell? ⟨W.heap.size, 7, none⟩ = some (.int .u8 (z 7)) := hx2.cell 7
  have HX2 := Lib.hid hx2
  clear k2 hx2
  go_wp2_with fail
  clear c0 c1 c2 c3 c4 c5 c6 c7
  refine (mof_any z 0 _).mono ?_
  rintro e w3 ⟨g, rfl, hg, hm, k3⟩
  have hwg : W.heap.size < g := by have := HX2.out.lt; omega
  have HM := Lib.hid hm
  have HX3 := Lib.hid (HX2.out.below k3 HX2.out.lt)
  have HB3 := Lib.hid (HB2.out.trans (k3.mono HB2.out.size))
  clear hm k3
  go_wp2_with fail
  refine (mset_any HM.out m b).mono ?_
  rintro e w4 ⟨rfl, hm4, k4⟩
  have HM4 := Lib.hid hm4
  have HX4 := Lib.hid (HX3.out.kp k4 (by simp; omega))
  have HB4 := Lib.hid (Kp.onto HB3.out k4 HB3.out.size (by simp; omega))
  clear hm4 k4
  go_wp2_with fail
  go_loopw [8] (fun i wr => ∃ k : Nat, k ≤ 8 ∧ i = .int .i64 k ∧ (∃ lk, MM wr g (mvd z m b) lk) ∧ Blk wr W.heap.size 22 (p8 z) ∧ Below W.heap.size W wr) (fun i wr => 8 - (intOf i).toNat)
  case atStart => exact ⟨0, by omega, rfl, ⟨b, HM4.out⟩, HX4.out, HB4.out⟩
  case round =>
    obtain ⟨k, hk, rfl, ⟨lk, hM⟩, hX, hBr⟩ := hrel
    by_cases hlt : k < 8
    · have i0 : (k : Int) < 8 := by omega
      have i1 : (0 : Int) ≤ (k : Int) := by omega
      have c0 : wr.cell? ⟨W.heap.size, k, none⟩ = some (.int .u8 (z k)) := by rw [hX.cell, p8_i, iArr_at .u8 8 _ _ hlt]
      obtain ⟨mk, hmk⟩ : ∃ mk : Int, (2 : Int) ^ k = mk := ⟨_, rfl⟩
      have hmw : IntKind.u8.wrap mk = mk := by
        rw [← hmk]
        exact (by decide : ∀ x : Fin 8, IntKind.u8.wrap ((2 : Int) ^ x.val) = (2 : Int) ^ x.val) ⟨k, hlt⟩
      have hkw : IntKind.u64.wrap (k : Int) = (k : Int) := IntWalk.u64_in _ (by omega)
      have HMK := Lib.hid hmk
      have hbit := rbit_any m (k : Int) wr m0 m1
      rw [rbB m0 m1 hlt] at hbit
      have HBT := Lib.hid hbit
      have hget := mget_any hM mk
      rw [← hmk, getI_one _ _ hlt, hmk] at hget
      obtain ⟨yk, hyk⟩ : ∃ yk, mvd z m b k = yk := ⟨_, rfl⟩
      rw [hyk] at hget
      have HGT := Lib.hid hget
      obtain ⟨zk, hzk⟩ : ∃ zk, z k = zk := ⟨_, rfl⟩
      rw [hzk] at c0
      have HX := Lib.hid hX
      have HBr := Lib.hid hBr
      have HMr := Lib.hid hM
      have e1 : bitB m (k : Int) = true → yk = b := fun h => by rw [← hyk]; unfold mvd; rw [if_pos h]
      have e0 : bitB m (k : Int) = false → yk = zk := fun h => by rw [← hyk, ← hzk]; unfold mvd; rw [if_neg (by rw [h]; decide)]
      have HE1 := Lib.hid e1
      have HE0 := Lib.hid e0
      clear hM hX hBr hbit hget hyk hzk e1 e0
      go_wp2_with fail
      clear hmk
      refine HBT.out.mono ?_
      rintro e w' ⟨rfl, rfl⟩
      obtain ⟨x, hx⟩ : ∃ x, bitB m (k : Int) = x := ⟨_, rfl⟩
      have HXX := Lib.hid hx
      rw [hx]
      clear hx
      cases x with
      | false =>
        obtain rfl := HE0.out HXX.out
        go_wp2_with fail
        refine HGT.out.mono ?_
        rintro e w5 ⟨rfl, hm5, k5⟩
        have HM5 := Lib.hid hm5
        clear hm5
        have HX5 := Lib.hid (HX.out.kp k5 (by simp; omega))
        have HB5 := Lib.hid (Kp.onto HBr.out k5 HBr.out.size (by simp; omega))
        clear k5
        go_wp2_with fail
        refine (last_any HM5.out).mono ?_
        rintro e w6 ⟨rfl, rfl⟩
        go_wp2_with fail
        go_roundw
        case rel => exact ⟨k + 1, by omega, by go_num, ⟨_, HM5.out⟩, HX5.out, HB5.out⟩
        case measure => simp [intOf]; omega
      | true =>
        obtain rfl := HE1.out HXX.out
        go_wp2_with fail
        refine HGT.out.mono ?_
        rintro e w5 ⟨rfl, hm5, k5⟩
        have HM5 := Lib.hid hm5
        clear hm5
        have HX5 := Lib.hid (HX.out.kp k5 (by simp; omega))
        have HB5 := Lib.hid (Kp.onto HBr.out k5 HBr.out.size (by simp; omega))
        clear k5
        go_wp2_with fail
        refine (last_any HM5.out).mono ?_
        rintro e w6 ⟨rfl, rfl⟩
        go_wp2_with fail
        go_roundw
        case rel => exact ⟨k + 1, by omega, by go_num, ⟨_, HM5.out⟩, HX5.out, HB5.out⟩
        case measure => simp [intOf]; omega
    · obtain rfl : k = 8 := by omega
      have i0 : ¬ ((8 : Nat) : Int) < 8 := by omega
      have HBr := Lib.hid hBr
      clear hBr hX hM
      go_wp2_with fail
      go_ret
      exact ⟨rfl, HBr.out⟩

theorem own : ownKnob Tryd.prog.godebug = none := by kernel_rfl
theorem laidOut : laidOutB Tryd.prog = true := by kernel_rfl
theorem door_met (os : Os) (args : Array Value) : laidMetH Tryd.prog laid2 ((World.doorLaid Tryd.prog 400 os).forCall (fun _ _ => 0) ⟨#[], args, []⟩).memory :=
  laidMetH_of_parts3 (fuel := 8) (laidMet_of_run' 8 (by kernel_rfl) (by kernel_rfl)) (by kernel_rfl) (by kernel_rfl)
set_option maxRecDepth 100000 in
theorem lifted (os : Os) (started : os.Started) (H : Type) (enc : TypeId × Value → H) :
    ReturnsInHanded {} Tryd.checked os 5 .any (fun w args => (Rows.mmuBackSpec.pre enc Tryd.prog Tryd.f5 [] false w args ∧ laidMetH Tryd.prog laid2 w) ∧ sizedMet enc Tryd.prog Tryd.f5 (OpenSpec.ofChange Rows.mmuBackSpec) false w args)
      (Rows.mmuBackSpec.post enc Tryd.prog Tryd.f5 false true false false) := by
  refine returnsInHanded_of_change_and (C := Tryd.checked) (X := fun w _ => laidMetH Tryd.prog laid2 w) (fun _ _ _ hh h => h.of_heap hh) own started (by kernel_rfl) Tryd.func5
    (ChangeSpec.witness_shaped (enc := enc) (C := Tryd.checked) (os := os) (X := fun w _ => laidMetH Tryd.prog laid2 w) false (World.doorLaid Tryd.prog 400 os) #[.agg #[.int .u8 0, .int .u8 0, .int .u8 0, .int .u8 0, .int .u8 0, .int .u8 0, .int .u8 0, .int .u8 0], .int .u8 0, .int .u8 0] 8 rfl (World.shaped_of_RefB (by kernel_rfl) (by kernel_rfl)) (by kernel_rfl) (by kernel_rfl) (by kernel_rfl) (door_met os _)) ?_
  intro W base args ds gs before hval0 hW _ _ hL0 _
  have hL : laidMetH Tryd.prog laid2 W := hL0
  rw [MakeChecks.laidMetH_plain _ _ _ (by kernel_rfl)] at hL
  have HT := of_laid hL
  have hval : ∀ (j : Nat) t v, Tryd.f5.params[j]? = some t → args[j]? = some v → Value.okWide Tryd.prog W .any base t v := hval0
  have hW' := hW
  obtain ⟨p, q, hA0, hV, rfl, _, _⟩ := hW
  have hA : DataW.TrodAll enc Tryd.prog W 0 (fun _ => true) true Tryd.f5.params.toList args.toList ds p := hA0
  rw [Tryd.params5] at hA hval
  obtain ⟨v0, vs0, d0, ds0, p0, q0, hargs, rfl, rfl, h0, r0⟩ := trodAll_cons hA
  obtain ⟨v1, vs1, d1, ds1, p1, q1, rfl, rfl, rfl, h1, r1⟩ := trodAll_cons r0
  obtain ⟨v2, vs2, d2, ds2, p2, q2, rfl, rfl, rfl, h2, r2⟩ := trodAll_cons r1
  obtain ⟨rfl, rfl, rfl⟩ := trodAll_nil r2
  obtain rfl : args = #[v0, v1, v2] := by cases args; simp_all
  obtain ⟨rfl, rfl⟩ := trodVars_none hV
  obtain ⟨z0, rfl, u0⟩ := array_ints_v Tryd.underlying22 Tryd.underlying5 (by kernel_rfl) (by kernel_rfl) (hval 0 22 v0 rfl rfl) h0
  obtain ⟨a1, rfl, rfl, rfl, w1⟩ := open_int Tryd.underlying5 (hval 1 5 v1 rfl rfl) h1
  obtain ⟨a2, rfl, rfl, rfl, w2⟩ := open_int Tryd.underlying5 (hval 2 5 v2 rfl rfl) h2
  clear hA0 hval0
  refine (walk z0 u0 a1 w1 a2 w2 W HT).mono fun e W' ⟨he, hg⟩ => ?_
  subst he
  exact ⟨_, rfl, law_post rfl Tryd.underlying4 laidOut (by kernel_rfl) rfl hW' rfl hg⟩

theorem over : Rows.mmuBackRow.holds Tryd.pinned (OpenSpec.ofChange Rows.mmuBackSpec) :=
  OpenClaim.holds_of_wide 5 Tryd.f5 rfl rfl rfl rfl rfl rfl rfl ⟨rfl, rfl, rfl, rfl, rfl⟩ rfl rfl rfl rfl rfl (by kernel_rfl) Tryd.func5 (by kernel_rfl)
    (of_decide_eq_true (by kernel_rfl)) (by unfold Func.isWrapper; first | (rw [if_pos (by decide +kernel)]; kernel_rfl) | (rw [if_neg (by decide +kernel)]; exact ⟨rfl, rfl⟩))
    (fun os started H enc _ => lifted os started H enc)

theorem proved : Rows.MmuBackCardSaid :=
  Claim7.holds_tied_plain_at .later [] [.data] true _ false
    over (fun _ h => by cases h) (by kernel_rfl) (fun _ h => by cases h) mmuBack_row_tie rfl ⟨rfl, rfl⟩ (by kernel_rfl) rfl
    (fun f fn hf hfn => by
      obtain rfl : f = 5 := Option.some.inj ((show Tryd.prog.funcNamed "gannet/gannetlaw18.MmuBack" = some 5 by kernel_rfl).symm.trans hf) |>.symm
      obtain rfl : fn = Tryd.f5 := (Option.some.inj (Tryd.func5.symm.trans hfn)).symm
      exact ⟨by kernel_rfl, fun j t ht => by
        rw [Tryd.params5] at ht
        have hm : t ∈ [22, 5, 5] := by simpa using Array.mem_of_getElem? ht
        have hall : ([22, 5, 5].all fun u => !Tryd.prog.wantsStandIn u) = true := by kernel_rfl
        exact (show Tryd.prog.wantsStandIn t = false by simpa using List.all_eq_true.1 hall t hm)⟩)
    (by kernel_rfl)
#print axioms proved
end Go.Proofs.YtnelcbbjnpaodaaDoor.mmuBack
