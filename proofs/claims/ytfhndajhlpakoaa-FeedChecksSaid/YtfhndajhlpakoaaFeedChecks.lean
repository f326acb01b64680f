/-
  For every input FeedChecks returns true, and each argument reads behind the call as it read before. No conditions.
-/
import Derived.Test.YtfhndajhlpakoaaRows
import Derived.Test.YtfhndajhlpakoaaG3
import Derived.Test.YtfhndajhlpakoaaFeed6
import Derived.Test.YtfhndajhlpakoaaCart2
import Derived.Deep.Cut
import Derived.Deep.CutRange
import Derived.Deep.RegionHeld3
import Derived.Deep.RegionWith
import Derived.RegionTactic
import Derived.BigRegion
import Derived.LoopTactic
namespace Go.Proofs.Ytfhndajhlpakoaa.feedChecks
open Go.ChangeShapes Go.WideShapes Go.ChangeAt Go.RowKit
open Go.ChangeMaps (open_string)

set_option linter.unusedVariables false
def FeedsAt (w : World) (v : Value) (a b c : Nat) : Prop := ∃ (g : Nat) (A B C : Option Addr) (ca cb cc : Nat), v = .pointer (some ⟨g, 0, none⟩) ∧ Blk w g 69 #[.slice A a ca, .slice B b cb, .slice C c cc]
theorem FeedsAt.of {w : World} {g a b c : Nat} {A B C : Option Addr} {ca cb cc : Nat} (h : Blk w g 69 #[.slice A a ca, .slice B b cb, .slice C c cc]) : FeedsAt w (.pointer (some ⟨g, 0, none⟩)) a b c := ⟨g, A, B, C, ca, cb, cc, rfl, h⟩
theorem long_yes {a b c : Nat} (h : 10000 < a ∨ 10000 < b ∨ 10000 < c) : (if longB a b c then (2 : Int) else 0) = 2 := by unfold longB; rw [decide_eq_true h]; rfl
theorem long_no {a b c : Nat} (h : ¬ (10000 < a ∨ 10000 < b ∨ 10000 < c)) : (if longB a b c then (2 : Int) else 0) = 0 := by unfold longB; rw [decide_eq_false h]; rfl
set_option maxRecDepth 100000 in
set_option maxHeartbeats 4000000 in
theorem walk (a : Int) (wa : (Lit.int .u16 a).wf = true) (b : Int) (wb : (Lit.int .u16 b).wf = true) (c : Int) (wc : (Lit.int .u16 c).wf = true) (W : World) :
    Calls Try.prog 9 #[.int .u16 a, .int .u16 b, .int .u16 c] W fun e w' => e = .returned (.bool true) ∧ Below W.heap.size W w' := by
  obtain ⟨a0, a1⟩ := bounds_u16 wa
  obtain ⟨b0, b1⟩ := bounds_u16 wb
  obtain ⟨c0, c1⟩ := bounds_u16 wc
  obtain ⟨a, rfl⟩ := Int.eq_ofNat_of_zero_le a0
  obtain ⟨b, rfl⟩ := Int.eq_ofNat_of_zero_le b0
  obtain ⟨c, rfl⟩ := Int.eq_ofNat_of_zero_le c0
  clear wa wb wc
  have ma := fun w => make_bytes a (by omega) w
  have mb := fun w => make_bytes b (by omega) w
  have mc := fun w => make_bytes c (by omega) w
  go_enter Try.func9, Try.ntmps9
  go_wp2_with fail
  refine (liveF_any _).mono ?_
  rintro e w1 ⟨rfl, hB⟩
  have hz := hB.size
  go_upto_region 3 with fail
  go_cut [7] from 11 to 36 (fun v wx => FeedsAt wx v a b c ∧ Below W.heap.size W wx)
  case first =>
    go_region
    all_goals
      go_wp2_with fail
      go_meet
      case rel =>
        refine And.intro ?_ ((((hB.alloc hz _).alloc (by simp; omega) _).alloc (by simp; omega) _).alloc (by simp; omega) _).drew
        first
          | exact FeedsAt.of (Blk.new_ (by simp)).drew_
          | exact FeedsAt.of ((Blk.new_ (by simp)).alloc _).drew_
          | exact FeedsAt.of (((Blk.new_ (by simp)).alloc _).alloc _).drew_
          | exact FeedsAt.of ((((Blk.new_ (by simp)).alloc _).alloc _).alloc _).drew_
  case rest =>
    obtain ⟨⟨g, A, B, C, ca, cb, cc, rfl, hb⟩, hB2⟩ := hcut
    have c0 := hb.cell 0
    have c1 := hb.cell 1
    have c2 := hb.cell 2
    simp only [List.getElem?_toArray, List.getElem?_cons_zero, List.getElem?_cons_succ] at c0 c1 c2
    have FC := Lib.hid (fcheck_any (w := wc) A B C a b c ca cb cc (by omega) (by omega) (by omega))
    clear ma mb mc hz hB
    by_cases hl : 10000 < a ∨ 10000 < b ∨ 10000 < c
    · rw [long_yes hl] at FC
      have HH := Lib.hid hl
      clear hl
      go_wp2_with (go_at_call 37; refine FC.out.mono ?_; rintro e w2 ⟨rfl, hb2⟩)
      all_goals first
        | (exfalso; have := HH.out; omega)
        | (go_ret; exact ⟨by simp, hB2.trans (hb2.mono hB2.size)⟩)
    · rw [long_no hl] at FC
      have l1 : ¬ (10000 : Int) < a := by omega
      have l2 : ¬ (10000 : Int) < b := by omega
      have l3 : ¬ (10000 : Int) < c := by omega
      clear hl
      go_wp2_with (go_at_call 37; refine FC.out.mono ?_; rintro e w2 ⟨rfl, hb2⟩)
      all_goals first
        | (go_ret; exact ⟨by simp, hB2.trans (hb2.mono hB2.size)⟩)

theorem own : ownKnob Try.prog.godebug = none := by kernel_rfl
theorem laidOut : laidOutB Try.prog = true := by kernel_rfl
set_option maxRecDepth 100000 in
theorem lifted (os : Os) (started : os.Started) (H : Type) (enc : TypeId × Value → H) :
    ReturnsInHanded {} Try.checked os 9 .any (Rows.feedChecksSpec.pre6 enc Try.prog Try.f9 Rows.feedChecksRow.domain false) (Rows.feedChecksSpec.post enc Try.prog Try.f9 false true false false) := by
  refine returnsInHanded_of_change (C := Try.checked) own started (by kernel_rfl) Try.func9
    (ChangeSpec.witness6 (enc := enc) (C := Try.checked) false ⟨#[], #[.int .u16 0, .int .u16 0, .int .u16 0], []⟩ 8 (by kernel_rfl) (by kernel_rfl) (by kernel_rfl) (by kernel_rfl)) ?_
  intro W base args ds gs before hval0 hW _ _
  have hval : ∀ (j : Nat) t v, Try.f9.params[j]? = some t → args[j]? = some v → Value.okWide Try.prog W .any base t v := hval0
  have hW' := hW
  obtain ⟨p, q, hA0, hV, rfl, _, _⟩ := hW
  have hA : DataW.TrodAll enc Try.prog W 0 (fun _ => true) true Try.f9.params.toList args.toList ds p := hA0
  rw [Try.params9] at hA hval
  obtain ⟨v0, vs0, d0, ds0, p0, q0, hargs, rfl, rfl, h0, r0⟩ := trodAll_cons hA
  obtain ⟨v1, vs1, d1, ds1, p1, q1, rfl, rfl, rfl, h1, r1⟩ := trodAll_cons r0
  obtain ⟨v2, vs2, d2, ds2, p2, q2, rfl, rfl, rfl, h2, r2⟩ := trodAll_cons r1
  obtain ⟨rfl, rfl, rfl⟩ := trodAll_nil r2
  obtain rfl : args = #[v0, v1, v2] := by cases args; simp_all
  obtain ⟨rfl, rfl⟩ := trodVars_none hV
  obtain ⟨a0, rfl, rfl, rfl, w0⟩ := open_int Try.underlying47 (hval 0 47 v0 rfl rfl) h0
  obtain ⟨a1, rfl, rfl, rfl, w1⟩ := open_int Try.underlying47 (hval 1 47 v1 rfl rfl) h1
  obtain ⟨a2, rfl, rfl, rfl, w2⟩ := open_int Try.underlying47 (hval 2 47 v2 rfl rfl) h2
  clear hA0 hval0
  refine (walk a0 w0 a1 w1 a2 w2 W).mono fun e W' ⟨he, hg⟩ => ?_
  subst he
  exact ⟨_, rfl, law_post rfl Try.underlying4 laidOut (by kernel_rfl) rfl hW' rfl hg⟩

theorem over : Rows.feedChecksRow.holds Try.pinned (OpenSpec.ofChange Rows.feedChecksSpec) :=
  OpenClaim.holds_of_wide 9 Try.f9 rfl rfl rfl rfl rfl rfl rfl ⟨rfl, rfl, rfl, rfl, rfl⟩ rfl rfl rfl rfl rfl (by kernel_rfl) Try.func9 (by kernel_rfl)
    (of_decide_eq_true (by kernel_rfl)) (by unfold Func.isWrapper; first | (rw [if_pos (by decide +kernel)]; kernel_rfl) | (rw [if_neg (by decide +kernel)]; exact ⟨rfl, rfl⟩))
    (fun os started H enc _ => lifted os started H enc)

theorem proved : Rows.FeedChecksSaid := over
#print axioms proved
end Go.Proofs.Ytfhndajhlpakoaa.feedChecks
