/-
  For every input ModesFind returns true, and each argument reads behind the call as it read before. The one condition: when the call begins the package-level variables that the row lists hold what the program lays in them (TIED: the card shows it of the text of the project, pruned to the packages that this seat loads).
-/
import Derived.Test.YtdhnnegigjjoeaaDoorRows
import Derived.Test.YtdhnnegigjjoeaaDoorKMD01
import Derived.SevenTiedAt
import Derived.ProofKit
import Derived.LaidMore
import Derived.OpenShut
import Derived.Stop.Joined
import Derived.Test.YtdhnnegigjjoeaaDoorCards
import Derived.Test.YtdhnnegigjjoeaaDoorTie
import Derived.Test.YtdhnnegigjjoeaaDoorKMD37
import Derived.Test.YtdhnnegigjjoeaaDoorKMD38
namespace Go.Proofs.YtdhnnegigjjoeaaDoor.modesFind
open Go.ChangeShapes Go.WideShapes Go.ChangeAt Go.RowKit
open Go.ChangeMaps (open_string)

set_option linter.unusedVariables false
set_option linter.unusedSimpArgs false
set_option maxRecDepth 100000 in
set_option maxHeartbeats 8000000 in
theorem walk {W : World} (m : Int) (wm : (Lit.int .u8 m).wf = true) (A : Option Addr) (n c : Nat) (z : Nat → Int) (gc : n ≤ c) (mc : c ≤ maxLen) (R : IRow W .u8 A n z) (x : Int) (wx : (Lit.int .u8 x).wf = true) (y : Int) (wy : (Lit.int .u8 y).wf = true) (g : Int) (wg : (Lit.int .u16 g).wf = true) (hT : Tabs W) :
    Calls Tryd.prog 3 #[.int .u8 m, .slice A n c, .int .u8 x, .int .u8 y, .int .u16 g] W fun e w' => e = .returned (.bool true) ∧ Below W.heap.size W w' := by
  obtain ⟨m0, m1⟩ := bounds_u8 wm
  obtain ⟨x0, x1⟩ := bounds_u8 wx
  obtain ⟨y0, y1⟩ := bounds_u8 wy
  obtain ⟨g0, g1⟩ := bounds_u16 wg
  obtain ⟨mm, rfl⟩ : ∃ mm : Nat, m = mm := ⟨m.toNat, by omega⟩
  have hm : mm < 256 := by omega
  have hP := fun W Q => mptr_any mm A n c z x x0 x1 W Q
  have hRP := fun W Q => rptr_any mm hm A n c gc z x x0 x1 W Q
  have hA := fun W Q => maddr_any mm hm A n c gc z x y g x0 x1 y0 y1 g0 g1 W Q
  have hRA := fun W Q => raddr_any mm hm A n c gc z x y g x0 x1 y0 y1 g0 g1 W Q
  have hB := fun W => mbehind_any mm W
  have hRB := fun W => rmbehind_any mm hm W
  obtain ⟨p1, p2, p3, hp⟩ := ptrP_shape mm n z x
  obtain ⟨a1, a2, ha⟩ := addP_shape mm n z x y g
  rw [hp] at hP hRP
  rw [ha] at hA hRA
  generalize mbP mm = q at hB hRB
  have k1 : (p1 == p1) = true := beq_self_eq_true _
  have k2 : (p2 == p2) = true := beq_self_eq_true _
  have k3 : (p3 == p3) = true := beq_self_eq_true _
  have k4 : (a1 == a1) = true := beq_self_eq_true _
  have k5 : (a2 == a2) = true := beq_self_eq_true _
  have k6 : (q == q) = true := beq_self_eq_true _
  have HR := Lib.hid R
  clear hT R mc wm wx wy wg hp ha
  go_enter Tryd.func3, Tryd.ntmps3
  go_wp2_with fail
  refine (live24).mono ?_
  rintro e w0 ⟨rfl, b0⟩
  have HB0 := Lib.hid b0
  clear b0
  go_wp2_with fail
  refine (hP _ (HR.out.keep HB0.out)).mono ?_
  rintro e w1 ⟨rfl, b⟩
  have HB1 := Lib.hid (HB0.out.trans (b.mono HB0.out.size))
  clear b
  go_wp2_with fail
  refine (hRP _ (HR.out.keep HB1.out)).mono ?_
  rintro e w2 ⟨rfl, b⟩
  have HB2 := Lib.hid (HB1.out.trans (b.mono HB1.out.size))
  clear b
  go_wp2_with fail
  refine (hA _ (HR.out.keep HB2.out)).mono ?_
  rintro e w3 ⟨rfl, b⟩
  have HB3 := Lib.hid (HB2.out.trans (b.mono HB2.out.size))
  clear b
  go_wp2_with fail
  refine (hRA _ (HR.out.keep HB3.out)).mono ?_
  rintro e w4 ⟨rfl, b⟩
  have HB4 := Lib.hid (HB3.out.trans (b.mono HB3.out.size))
  clear b
  go_wp2_with (go_at_call 12; refine (hB _).mono ?_; rintro e w' ⟨rfl, rfl⟩)
  refine (hRB _).mono ?_
  rintro e w5 ⟨rfl, b⟩
  have HB5 := Lib.hid (HB4.out.trans (b.mono HB4.out.size))
  clear b
  go_wp2_with fail
  go_ret
  exact ⟨rfl, HB5.out⟩

theorem own : ownKnob Tryd.prog.godebug = none := by kernel_rfl
theorem laidOut : laidOutB Tryd.prog = true := by kernel_rfl
set_option maxRecDepth 100000 in
theorem lifted (os : Os) (started : os.Started) (H : Type) (enc : TypeId × Value → H) :
    ReturnsInHanded {} Tryd.checked os 3 .any (fun w args => (Rows.modesFindSpec.pre enc Tryd.prog Tryd.f3 [] false w args ∧ laidMetH Tryd.prog laid2 w) ∧ sizedMet enc Tryd.prog Tryd.f3 (OpenSpec.ofChange Rows.modesFindSpec) false w args)
      (Rows.modesFindSpec.post enc Tryd.prog Tryd.f3 false true false false) := by
  refine returnsInHanded_of_change_and (C := Tryd.checked) (X := fun w _ => laidMetH Tryd.prog laid2 w) (fun _ _ _ hh h => h.of_heap hh) own started (by kernel_rfl) Tryd.func3
    (ChangeSpec.witness_shaped (enc := enc) (C := Tryd.checked) (os := os) (X := fun w _ => laidMetH Tryd.prog laid2 w) false (World.laidAll Tryd.prog os laid2) #[.int .u8 0, .slice none 0 0, .int .u8 0, .int .u8 0, .int .u16 0] 8 (World.laidAll_os _ _ _) (World.shaped_of_ZipB (by kernel_rfl) (by kernel_rfl)) (by kernel_rfl) (by kernel_rfl) (by kernel_rfl) (by rw [MakeChecks.laidMetH_plain _ _ _ (by kernel_rfl)]; exact laidMet_laidAll _ (by kernel_rfl) (by kernel_rfl))) ?_
  intro W base args ds gs before hval0 hW _ _ hL0 _
  have hL : laidMetH Tryd.prog laid2 W := hL0
  rw [MakeChecks.laidMetH_plain _ _ _ (by kernel_rfl)] at hL
  have HT := of_laid hL
  have hval : ∀ (j : Nat) t v, Tryd.f3.params[j]? = some t → args[j]? = some v → Value.okWide Tryd.prog W .any base t v := hval0
  have hW' := hW
  obtain ⟨p, q, hA0, hV, rfl, _, _⟩ := hW
  have hA : DataW.TrodAll enc Tryd.prog W 0 (fun _ => true) true Tryd.f3.params.toList args.toList ds p := hA0
  rw [Tryd.params3] at hA hval
  obtain ⟨v0, vs0, d0, ds0, p0, q0, hargs, rfl, rfl, h0, r0⟩ := trodAll_cons hA
  obtain ⟨v1, vs1, d1, ds1, p1, q1, rfl, rfl, rfl, h1, r1⟩ := trodAll_cons r0
  obtain ⟨v2, vs2, d2, ds2, p2, q2, rfl, rfl, rfl, h2, r2⟩ := trodAll_cons r1
  obtain ⟨v3, vs3, d3, ds3, p3, q3, rfl, rfl, rfl, h3, r3⟩ := trodAll_cons r2
  obtain ⟨v4, vs4, d4, ds4, p4, q4, rfl, rfl, rfl, h4, r4⟩ := trodAll_cons r3
  obtain ⟨rfl, rfl, rfl⟩ := trodAll_nil r4
  obtain rfl : args = #[v0, v1, v2, v3, v4] := by cases args; simp_all
  obtain ⟨rfl, rfl⟩ := trodVars_none hV
  obtain ⟨a0, rfl, rfl, rfl, w0⟩ := open_int Tryd.underlying5 (hval 0 5 v0 rfl rfl) h0
  obtain ⟨A1, n1, c1, z1, rfl, g1, m1, R1⟩ := slice_ints Tryd.underlying22 Tryd.underlying5 (by kernel_rfl) (hval 1 22 v1 rfl rfl) h1
  obtain ⟨a2, rfl, rfl, rfl, w2⟩ := open_int Tryd.underlying5 (hval 2 5 v2 rfl rfl) h2
  obtain ⟨a3, rfl, rfl, rfl, w3⟩ := open_int Tryd.underlying5 (hval 3 5 v3 rfl rfl) h3
  obtain ⟨a4, rfl, rfl, rfl, w4⟩ := open_int Tryd.underlying23 (hval 4 23 v4 rfl rfl) h4
  clear hA0 hval0
  refine (walk a0 w0 A1 n1 c1 z1 g1 m1 R1 a2 w2 a3 w3 a4 w4 HT).mono fun e W' ⟨he, hg⟩ => ?_
  subst he
  exact ⟨_, rfl, law_post rfl Tryd.underlying4 laidOut (by kernel_rfl) rfl hW' rfl hg⟩

theorem over : Rows.modesFindRow.holds Tryd.pinned (OpenSpec.ofChange Rows.modesFindSpec) :=
  OpenClaim.holds_of_wide 3 Tryd.f3 rfl rfl rfl rfl rfl rfl rfl ⟨rfl, rfl, rfl, rfl, rfl⟩ rfl rfl rfl rfl rfl (by kernel_rfl) Tryd.func3 (by kernel_rfl)
    (of_decide_eq_true (by kernel_rfl)) (by unfold Func.isWrapper; first | (rw [if_pos (by decide +kernel)]; kernel_rfl) | (rw [if_neg (by decide +kernel)]; exact ⟨rfl, rfl⟩))
    (fun os started H enc _ => lifted os started H enc)

theorem proved : Rows.ModesFindCardSaid :=
  Claim7.holds_tied_plain_at .later [] [.data, .pinned] true _ false
    over (fun _ h => by cases h) (by kernel_rfl) (fun _ h => by cases h) modesFind_row_tie rfl ⟨rfl, rfl⟩ (by kernel_rfl) rfl
    (fun f fn hf hfn => by
      obtain rfl : f = 3 := Option.some.inj ((show Tryd.prog.funcNamed "gannet/gannetlaw24.ModesFind" = some 3 by kernel_rfl).symm.trans hf) |>.symm
      obtain rfl : fn = Tryd.f3 := (Option.some.inj (Tryd.func3.symm.trans hfn)).symm
      exact ⟨by kernel_rfl, fun j t ht => by
        rw [Tryd.params3] at ht
        have hm : t ∈ [5, 22, 5, 5, 23] := by simpa using Array.mem_of_getElem? ht
        have hall : ([5, 22, 5, 5, 23].all fun u => !Tryd.prog.wantsStandIn u) = true := by kernel_rfl
        exact (show Tryd.prog.wantsStandIn t = false by simpa using List.all_eq_true.1 hall t hm)⟩)
    (by kernel_rfl)
#print axioms proved
end Go.Proofs.YtdhnnegigjjoeaaDoor.modesFind
