/-
  For every input PhysTexts returns true, and each argument reads behind the call as it read before. No conditions.
-/
import Derived.Test.YtcckojleeojpiaaRows
import Derived.Test.YtcckojleeojpiaaG3
import Derived.Test.YtcckojleeojpiaaPhys7
namespace Go.Proofs.Ytcckojleeojpiaa.physTexts
open Go.ChangeShapes Go.WideShapes Go.ChangeAt Go.RowKit
open Go.ChangeMaps (open_string)

set_option linter.unusedVariables false
theorem text_mod (a : Int) (a0 : 0 ≤ a) : textL a = textL (a % 2097152) := by
  unfold textL bankI offI
  rw [show a % 2097152 % 2097152 = a % 2097152 by omega, show a % 2097152 % 8192 = a % 8192 by omega]
theorem of_text (a : Int) (a0 : 0 ≤ a) : ofL (strOfNums (textL a)).data.toList = (a % 2097152, 0) := by
  rw [text_mod a a0, text_of, of_ref]
  exact ref_text _ (by omega) (by omega)
theorem of_cases (s : ByteArray) : (∃ p, ofL s.data.toList = (p, 0) ∧ strOfNums (textL p) = s ∧ 0 ≤ p ∧ p ≤ 4294967295) ∨ ofL s.data.toList = (0, 3) := by
  unfold ofL
  by_cases h : textB (adrL s.data.toList) = s.data.toList
  · have b := adr_bd s.data.toList
    rw [if_pos h]; exact Or.inl ⟨_, rfl, (text_eq _ s).2 h, b.1, by omega⟩
  · rw [if_neg h]; exact Or.inr rfl
set_option maxHeartbeats 4000000 in
theorem walk (a : Int) (wa : (Lit.int .u32 a).wf = true) (s : ByteArray) (ws : s.size ≤ maxLen) (w : World) :
    Calls Try.prog 5 #[.int .u32 a, .string s] w fun e w' => e = .returned (.bool true) ∧ Below w.heap.size w w' := by
  obtain ⟨a0, a1⟩ := bounds_u32 wa
  clear wa
  have hB := Below.refl w.heap.size w
  have WS := Lib.hid ws
  have T1 := Lib.hid (of_text a a0)
  have R1 := Lib.hid (of_ref s.data.toList)
  have SZ : Hid ((strOfNums (textL a)).size ≤ maxLen) := Lib.hid (by rw [strOf_size, textL_len]; decide)
  clear ws
  have hC := of_cases s
  rcases hC with ⟨p, hp, ht, p0, p1⟩ | hp
  · have HP := Lib.hid hp
    have HT := Lib.hid ht
    clear hp ht
    go_enter Try.func5, Try.ntmps5
    go_wp2_with (first
      | (go_at_call 12; refine (live_any _).mono ?_; rintro e w1 ⟨rfl, hb⟩; have hB := hB.trans (hb.mono hB.size))
      | fail)
    refine (text_any _ _ a0 a1).mono ?_; rintro e w2 ⟨rfl, hb⟩; have hB := hB.trans (hb.mono hB.size)
    go_wp2_with fail
    refine (asV (of_any _ _ SZ.out) (by rw [T1.out])).mono ?_; rintro e w3 ⟨rfl, hb⟩; have hB := hB.trans (hb.mono hB.size)
    go_wp2_with fail
    refine (asV (of_any s _ WS.out) (by rw [HP.out])).mono ?_; rintro e w4 ⟨rfl, hb⟩; have hB := hB.trans (hb.mono hB.size)
    go_wp2_with fail
    refine (asV (rof_any s _ WS.out) (by rw [← R1.out, HP.out])).mono ?_; rintro e w5 ⟨rfl, hb⟩; have hB := hB.trans (hb.mono hB.size)
    go_wp2_with (first
      | (go_at_call 27; refine (rtext_any _ _ a0 a1).mono ?_; rintro e w' ⟨rfl, rfl⟩)
      | (go_at_call 24; refine (asV (text_any _ _ p0 p1) (by rw [HT.out])).mono ?_; rintro e w6 ⟨rfl, hb⟩; have hB := hB.trans (hb.mono hB.size)))
    go_ret
    exact ⟨rfl, hB⟩
  · have HP := Lib.hid hp
    clear hp
    go_enter Try.func5, Try.ntmps5
    go_wp2_with (first
      | (go_at_call 12; refine (live_any _).mono ?_; rintro e w1 ⟨rfl, hb⟩; have hB := hB.trans (hb.mono hB.size))
      | fail)
    refine (text_any _ _ a0 a1).mono ?_; rintro e w2 ⟨rfl, hb⟩; have hB := hB.trans (hb.mono hB.size)
    go_wp2_with fail
    refine (asV (of_any _ _ SZ.out) (by rw [T1.out])).mono ?_; rintro e w3 ⟨rfl, hb⟩; have hB := hB.trans (hb.mono hB.size)
    go_wp2_with fail
    refine (asV (of_any s _ WS.out) (by rw [HP.out])).mono ?_; rintro e w4 ⟨rfl, hb⟩; have hB := hB.trans (hb.mono hB.size)
    go_wp2_with fail
    refine (asV (rof_any s _ WS.out) (by rw [← R1.out, HP.out])).mono ?_; rintro e w5 ⟨rfl, hb⟩; have hB := hB.trans (hb.mono hB.size)
    go_wp2_with (first
      | (go_at_call 27; refine (rtext_any _ _ a0 a1).mono ?_; rintro e w' ⟨rfl, rfl⟩)
      | fail)
    go_ret
    exact ⟨rfl, hB⟩

theorem own : ownKnob Try.prog.godebug = none := by kernel_rfl
theorem laidOut : laidOutB Try.prog = true := by kernel_rfl
set_option maxRecDepth 100000 in
theorem lifted (os : Os) (started : os.Started) (H : Type) (enc : TypeId × Value → H) :
    ReturnsInHanded {} Try.checked os 5 .any (Rows.physTextsSpec.pre6 enc Try.prog Try.f5 Rows.physTextsRow.domain false) (Rows.physTextsSpec.post enc Try.prog Try.f5 false true false false) := by
  refine returnsInHanded_of_change (C := Try.checked) own started (by kernel_rfl) Try.func5
    (ChangeSpec.witness6 (enc := enc) (C := Try.checked) false ⟨#[], #[.int .u32 0, .string ⟨#[]⟩], []⟩ 8 (by kernel_rfl) (by kernel_rfl) (by kernel_rfl) (by kernel_rfl)) ?_
  intro W base args ds gs before hval0 hW _ _
  have hval : ∀ (j : Nat) t v, Try.f5.params[j]? = some t → args[j]? = some v → Value.okWide Try.prog W .any base t v := hval0
  have hW' := hW
  obtain ⟨p, q, hA0, hV, rfl, _, _⟩ := hW
  have hA : DataW.TrodAll enc Try.prog W 0 (fun _ => true) true Try.f5.params.toList args.toList ds p := hA0
  rw [Try.params5] at hA hval
  obtain ⟨v0, vs0, d0, ds0, p0, q0, hargs, rfl, rfl, h0, r0⟩ := trodAll_cons hA
  obtain ⟨v1, vs1, d1, ds1, p1, q1, rfl, rfl, rfl, h1, r1⟩ := trodAll_cons r0
  obtain ⟨rfl, rfl, rfl⟩ := trodAll_nil r1
  obtain rfl : args = #[v0, v1] := by cases args; simp_all
  obtain ⟨rfl, rfl⟩ := trodVars_none hV
  obtain ⟨a0, rfl, rfl, rfl, w0⟩ := open_int Try.underlying22 (hval 0 22 v0 rfl rfl) h0
  obtain ⟨a1, rfl, rfl, rfl, w1⟩ := open_string Try.underlying9 (hval 1 9 v1 rfl rfl) h1
  clear hA0 hval0
  refine (walk a0 w0 a1 w1 W).mono fun e W' ⟨he, hg⟩ => ?_
  subst he
  exact ⟨_, rfl, law_post rfl Try.underlying4 laidOut (by kernel_rfl) rfl hW' rfl hg⟩

theorem over : Rows.physTextsRow.holds Try.pinned (OpenSpec.ofChange Rows.physTextsSpec) :=
  OpenClaim.holds_of_wide 5 Try.f5 rfl rfl rfl rfl rfl rfl rfl ⟨rfl, rfl, rfl, rfl, rfl⟩ rfl rfl rfl rfl rfl (by kernel_rfl) Try.func5 (by kernel_rfl)
    (of_decide_eq_true (by kernel_rfl)) (by unfold Func.isWrapper; first | (rw [if_pos (by decide +kernel)]; kernel_rfl) | (rw [if_neg (by decide +kernel)]; exact ⟨rfl, rfl⟩))
    (fun os started H enc _ => lifted os started H enc)

theorem proved : Rows.PhysTextsSaid := over
#print axioms proved
end Go.Proofs.Ytcckojleeojpiaa.physTexts
