/-
  For every input EnterAccess returns true, and each argument reads behind the call as it read before. No conditions.
-/
import Derived.Test.YtngfmofjonleeaaGreatRows
import Derived.Test.YtngfmofjonleeaaGreatKEA01
import Derived.Test.YtngfmofjonleeaaGreatKEA53
import Derived.Test.YtngfmofjonleeaaGreatKEA54
import Derived.Test.YtngfmofjonleeaaGreatKEA09
import Derived.Test.YtngfmofjonleeaaGreatKEA13
namespace Go.Proofs.YtngfmofjonleeaaGreat.enterAccess
open Go.ChangeShapes Go.WideShapes Go.ChangeAt Go.RowKit
open Go.ChangeMaps (open_string)

set_option linter.unusedVariables false
set_option linter.unusedSimpArgs false
theorem sp_of {q : Nat → Nat → Value} {i : Nat} (h : ∀ (j : Nat) (k : FK), [FK.int .u8, .int .u16, .bool, .int .u8][j]? = some k → k.ok (q i j)) : ∃ p : Sp, p.ok ∧ ∀ j, j < 4 → (spC p).getD j (.bool false) = q i j := by
  obtain ⟨a, ha, wa⟩ := h 0 _ rfl
  obtain ⟨b, hb, wb⟩ := h 1 _ rfl
  obtain ⟨c, hc⟩ := h 2 _ rfl
  obtain ⟨d, hd, wd⟩ := h 3 _ rfl
  obtain ⟨b0, b1⟩ := bounds_u16 wb
  obtain ⟨d0, d1⟩ := bounds_u8 wd
  refine ⟨⟨a, b, c, d⟩, ⟨b0, b1, d0, d1⟩, fun j hj => ?_⟩
  rcases (by omega : j = 0 ∨ j = 1 ∨ j = 2 ∨ j = 3) with rfl | rfl | rfl | rfl
  · exact ha.symm
  · exact hb.symm
  · exact hc.symm
  · exact hd.symm
theorem walk {W : World} (r : Nat → Int) (hr : StOk r) (A : Option Addr) (n c : Nat) (q : Nat → Nat → Value) (hnc : n ≤ c) (hm : c ≤ maxLen) (R : FRow W 4 A n q) (F : ∀ i, i < n → ∀ (j : Nat) (k : FK), [FK.int .u8, .int .u16, .bool, .int .u8][j]? = some k → k.ok (q i j)) :
    Calls Tryz.prog 3 #[.agg (stA r), .slice A n c] W fun e w' => e = .returned (.bool true) ∧ Below W.heap.size W w' := by
  have hs : ∀ i, ∃ p : Sp, i < n → p.ok ∧ ∀ j, j < 4 → (spC p).getD j (.bool false) = q i j := fun i => by
    by_cases hi : i < n
    · obtain ⟨p, h⟩ := sp_of (F i hi)
      exact ⟨p, fun _ => h⟩
    · exact ⟨⟨0, 0, false, 0⟩, fun h => absurd h hi⟩
  obtain ⟨sp, hsp⟩ := Classical.axiomOfChoice hs
  exact enteraccess_walk r hr A n c sp hnc hm (fun i hi => (hsp i hi).1) (R.congr fun i hi j hj => (hsp i hi).2 j hj)

theorem own : ownKnob Tryz.prog.godebug = none := by kernel_rfl
theorem laidOut : laidOutB Tryz.prog = true := by kernel_rfl
set_option maxRecDepth 100000 in
theorem lifted (os : Os) (started : os.Started) (H : Type) (enc : TypeId × Value → H) :
    ReturnsInHanded {} Tryz.checked os 3 .any (Rows.enterAccessSpec.pre6 enc Tryz.prog Tryz.f3 Rows.enterAccessRow.domain false) (Rows.enterAccessSpec.post enc Tryz.prog Tryz.f3 false true false false) := by
  refine returnsInHanded_of_change (C := Tryz.checked) own started (by kernel_rfl) Tryz.func3
    (ChangeSpec.witness6 (enc := enc) (C := Tryz.checked) false ⟨#[], #[.agg #[.int .u8 0, .int .u8 0, .int .u8 0, .int .u8 0, .int .u8 0, .int .u16 0, .int .u8 0, .int .u8 0, .int .u8 0, .int .u8 0, .int .u8 0, .int .u8 0, .int .u8 0, .int .u8 0, .int .u8 0, .bool false], .slice none 0 0], []⟩ 8 (by kernel_rfl) (by kernel_rfl) (by kernel_rfl) (by kernel_rfl)) ?_
  intro W base args ds gs before hval0 hW _ _
  have hval : ∀ (j : Nat) t v, Tryz.f3.params[j]? = some t → args[j]? = some v → Value.okWide Tryz.prog W .any base t v := hval0
  have hW' := hW
  obtain ⟨p, q, hA0, hV, rfl, _, _⟩ := hW
  have hA : DataW.TrodAll enc Tryz.prog W 0 (fun _ => true) true Tryz.f3.params.toList args.toList ds p := hA0
  rw [Tryz.params3] at hA hval
  obtain ⟨v0, vs0, d0, ds0, p0, q0, hargs, rfl, rfl, h0, r0⟩ := trodAll_cons hA
  obtain ⟨v1, vs1, d1, ds1, p1, q1, rfl, rfl, rfl, h1, r1⟩ := trodAll_cons r0
  obtain ⟨rfl, rfl, rfl⟩ := trodAll_nil r1
  obtain rfl : args = #[v0, v1] := by cases args; simp_all
  obtain ⟨rfl, rfl⟩ := trodVars_none hV
  obtain ⟨st0, rfl, So0⟩ := state_value Tryz.underlying25 (by kernel_rfl) (by kernel_rfl) (by kernel_rfl) Tryz.underlying5 Tryz.underlying5 Tryz.underlying5 Tryz.underlying5 Tryz.underlying5 Tryz.underlying22 Tryz.underlying23 Tryz.underlying5 (by kernel_rfl) Tryz.underlying5 Tryz.underlying4 (hval 0 25 v0 rfl rfl) h0
  obtain ⟨A1, n1, c1, q1, rfl, g1, m1, R1, F1, N1⟩ := slice_fk _ [.int .u8, .int .u16, .bool, .int .u8] Tryz.underlying26 Tryz.underlying46 (by kernel_rfl) (by kernel_rfl) rfl (by decide)
    (fun j k h => match j, h with
      | 0, h => by cases h; exact ⟨_, rfl, Tryz.underlying5⟩
      | 1, h => by cases h; exact ⟨_, rfl, Tryz.underlying22⟩
      | 2, h => by cases h; exact ⟨_, rfl, Tryz.underlying4⟩
      | 3, h => by cases h; exact ⟨_, rfl, Tryz.underlying5⟩
      | j + 4, h => by simp at h) (hval 1 26 v1 rfl rfl) h1
  clear hA0 hval0
  refine (walk st0 So0 A1 n1 c1 q1 g1 m1 R1 F1).mono fun e W' ⟨he, hg⟩ => ?_
  subst he
  exact ⟨_, rfl, law_post rfl Tryz.underlying4 laidOut (by kernel_rfl) rfl hW' rfl hg⟩

theorem over : Rows.enterAccessRow.holds Tryz.pinned (OpenSpec.ofChange Rows.enterAccessSpec) :=
  OpenClaim.holds_of_wide 3 Tryz.f3 rfl rfl rfl rfl rfl rfl rfl ⟨rfl, rfl, rfl, rfl, rfl⟩ rfl rfl rfl rfl rfl (by kernel_rfl) Tryz.func3 (by kernel_rfl)
    (of_decide_eq_true (by kernel_rfl)) (by unfold Func.isWrapper; first | (rw [if_pos (by decide +kernel)]; kernel_rfl) | (rw [if_neg (by decide +kernel)]; exact ⟨rfl, rfl⟩))
    (fun os started H enc _ => lifted os started H enc)

theorem proved : Rows.EnterAccessSaid := over
#print axioms proved
end Go.Proofs.YtngfmofjonleeaaGreat.enterAccess
