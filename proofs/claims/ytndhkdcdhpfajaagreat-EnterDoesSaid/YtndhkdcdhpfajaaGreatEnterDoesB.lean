/-
 For every input EnterDoes returns true, and each argument reads behind the call as it read before. No conditions.
-/
import Derived.Test.YtndhkdcdhpfajaaGreatRows
import Derived.Test.YtndhkdcdhpfajaaGreatKED01
import Derived.Test.YtndhkdcdhpfajaaGreatKED54
import Derived.Test.YtndhkdcdhpfajaaGreatKED34
import Derived.Test.YtndhkdcdhpfajaaGreatKED13
import Derived.Test.YtndhkdcdhpfajaaGreatKED09
import Derived.Test.YtndhkdcdhpfajaaGreatKED14
namespace Go.Proofs.YtndhkdcdhpfajaaGreat.enterDoes
open Go.ChangeShapes Go.WideShapes Go.ChangeAt Go.RowKit
open Go.ChangeMaps (open_string)

set_option linter.unusedVariables false
set_option linter.unusedSimpArgs false

theorem own : ownKnob Tryz.prog.godebug = none := by kernel_rfl
theorem laidOut : laidOutB Tryz.prog = true := by kernel_rfl
set_option maxRecDepth 100000 in
set_option maxHeartbeats 4000000 in
theorem lifted (os : Os) (started : os.Started) (H : Type) (enc : TypeId × Value → H) :
  ReturnsInHanded {} Tryz.checked os 3 .any (Rows.enterDoesSpec.pre6 enc Tryz.prog Tryz.f3 Rows.enterDoesRow.domain false) (Rows.enterDoesSpec.post enc Tryz.prog Tryz.f3 false true false false) := by
 refine returnsInHanded_of_change_sized (C := Tryz.checked) own started (by kernel_rfl) Tryz.func3
  (ChangeSpec.witness6 (enc := enc) (C := Tryz.checked) false ⟨#[], #[.agg #[.slice none 0 0, .slice none 0 0, .slice none 0 0, .slice none 0 0, .slice none 0 0, .slice none 0 0, .int .i64 0], .agg #[.int .u8 0, .int .u8 0, .int .u8 0, .int .u8 0, .int .u8 0, .int .u16 0, .int .u8 0, .int .u8 0, .int .u8 0, .int .u8 0, .int .u8 0, .int .u8 0, .int .u8 0, .int .u8 0, .int .u8 0, .bool false], .slice none 0 0], []⟩ 8 (by kernel_rfl) (by kernel_rfl) (by kernel_rfl) (by kernel_rfl)) ?_
 intro W base args ds gs before hval0 hW _ hsz0 _
 have hval : ∀ (j : Nat) t v, Tryz.f3.params[j]? = some t → args[j]? = some v → Value.okWide Tryz.prog W .any base t v := hval0
 have hW' := hW
 obtain ⟨p, q, hA0, hV, rfl, _, _⟩ := hW
 have hA : DataW.TrodAll enc Tryz.prog W 0 (fun _ => true) true Tryz.f3.params.toList args.toList ds p := hA0
 rw [Tryz.params3] at hA hval
 have hsz : (DataW.weightsEach Tryz.prog (Tryz.f3.params.toList ++ []) (ds ++ gs)).all (· ≤ reachBytes) = true := hsz0
 rw [Tryz.params3] at hsz
 clear hsz0
 obtain ⟨v0, vs0, d0, ds0, p0, q0, hargs, rfl, rfl, h0, r0⟩ := trodAll_cons hA
 obtain ⟨v1, vs1, d1, ds1, p1, q1, rfl, rfl, rfl, h1, r1⟩ := trodAll_cons r0
 obtain ⟨v2, vs2, d2, ds2, p2, q2, rfl, rfl, rfl, h2, r2⟩ := trodAll_cons r1
 obtain ⟨rfl, rfl, rfl⟩ := trodAll_nil r2
 obtain rfl : args = #[v0, v1, v2] := by cases args; simp_all
 obtain ⟨rfl, rfl⟩ := trodVars_none hV
 obtain ⟨rA, rn, rc, rz, mA, mn, mc, pcs, wp, wq, ws, A, n, c, es, bu, D0, D1, D2, D3, D4, rfl, rfl, hrn, RR, XR, RN, hmn, hmc, RM, FP, FQ, FS, hnc, hm, RE, FE, NE, WB⟩ := world_value7 Tryz.underlying28 (by kernel_rfl) (by kernel_rfl) (by kernel_rfl) Tryz.underlying22 Tryz.underlying5 (by kernel_rfl) Tryz.underlying23 Tryz.underlying141 (by kernel_rfl) (by kernel_rfl) Tryz.underlying3 Tryz.underlying22 Tryz.underlying25 (by kernel_rfl) Tryz.underlying22 Tryz.underlying22 Tryz.underlying22 Tryz.underlying26 Tryz.underlying181 (by kernel_rfl) (by kernel_rfl) Tryz.underlying2 Tryz.underlying5 Tryz.underlying4 Tryz.underlying2 (hval 0 28 v0 rfl rfl) h0
 have hrc := reach_in hsz (j := 0) (i := 0) (t := 28) (tf := 22) rfl rfl Tryz.underlying28 rfl rfl Tryz.underlying22 (by kernel_rfl) XR
 obtain ⟨st1, rfl, So1⟩ := state_value Tryz.underlying32 (by kernel_rfl) (by kernel_rfl) (by kernel_rfl) Tryz.underlying5 Tryz.underlying5 Tryz.underlying5 Tryz.underlying5 Tryz.underlying5 Tryz.underlying29 Tryz.underlying30 Tryz.underlying5 (by kernel_rfl) Tryz.underlying5 Tryz.underlying4 (hval 1 32 v1 rfl rfl) h1
 obtain ⟨A2, n2, c2, z2, rfl, g2, m2, R2⟩ := slice_ints Tryz.underlying22 Tryz.underlying5 (by kernel_rfl) (hval 2 22 v2 rfl rfl) h2
 clear hA0 hval0
 refine (enterdoes_walk rA rn rc rz hrn hrc RR RN mA mn mc pcs hmn hmc RM wp wq ws FP FQ FS A n c es hnc hm RE FE NE bu WB st1 So1 A2 n2 c2 z2 g2 m2 R2).mono fun e W' ⟨he, hg⟩ => ?_
 subst he
 exact ⟨_, rfl, law_post rfl Tryz.underlying4 laidOut (by kernel_rfl) rfl hW' rfl hg⟩

theorem over : Rows.enterDoesRow.holds Tryz.pinned (OpenSpec.ofChange Rows.enterDoesSpec) :=
 OpenClaim.holds_of_wide 3 Tryz.f3 rfl rfl rfl rfl rfl rfl rfl ⟨rfl, rfl, rfl, rfl, rfl⟩ rfl rfl rfl rfl rfl (by kernel_rfl) Tryz.func3 (by kernel_rfl)
  (of_decide_eq_true (by kernel_rfl)) (by unfold Func.isWrapper; first | (rw [if_pos (by decide +kernel)]; kernel_rfl) | (rw [if_neg (by decide +kernel)]; exact ⟨rfl, rfl⟩))
  (fun os started H enc _ => lifted os started H enc)

theorem proved : Rows.EnterDoesSaid := over
#print axioms proved
end Go.Proofs.YtndhkdcdhpfajaaGreat.enterDoes
