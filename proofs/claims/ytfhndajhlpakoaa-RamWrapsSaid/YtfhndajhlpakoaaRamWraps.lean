/-
  For every input RamWraps returns true, and each argument reads behind the call as it read before. No conditions.
-/
import Derived.Test.YtfhndajhlpakoaaRows
import Derived.Test.YtfhndajhlpakoaaG3
import Derived.Test.YtfhndajhlpakoaaRam7
namespace Go.Proofs.Ytfhndajhlpakoaa.ramWraps
open Go.ChangeShapes Go.WideShapes Go.ChangeAt Go.RowKit
open Go.ChangeMaps (open_string)

set_option linter.unusedVariables false
set_option maxRecDepth 100000 in
set_option maxHeartbeats 4000000 in
theorem walk (a : Int) (wa : (Lit.int .u16 a).wf = true) (b : Int) (wb : (Lit.int .u8 b).wf = true) (c : Int) (wc : (Lit.int .u8 c).wf = true) (W : World) :
    Calls Try.prog 6 #[.int .u16 a, .int .u8 b, .int .u8 c] W fun e w' => e = .returned (.bool true) ∧ Below W.heap.size W w' := by
  obtain ⟨a0, a1⟩ := bounds_u16 wa
  obtain ⟨b0, b1⟩ := bounds_u8 wb
  obtain ⟨c0, c1⟩ := bounds_u8 wc
  clear wa wb wc
  obtain ⟨p, hp⟩ : ∃ p, IntKind.u16.wrap (a + 1) = p := ⟨_, rfl⟩
  obtain ⟨q, hq⟩ : ∃ q, IntKind.u16.wrap (a + 8192) = q := ⟨_, rfl⟩
  have ep : p = (a + 1) % 65536 := by rw [← hp, IntKind.wrap_u16]
  have eq : q = (a + 8192) % 65536 := by rw [← hq, IntKind.wrap_u16]
  have f1 : fw (fw (fun _ => 0) a b) p c (a % 8192).toNat = b := by
    unfold fw; rw [if_neg (by omega), if_pos rfl]
  have f2 : fw (fw (fun _ => 0) a b) p c (q % 8192).toNat = b := by
    unfold fw; rw [if_neg (by omega), if_pos (by omega)]
  have f3 : ∀ x : Int, x % 8192 = (a + 16384 + 1) % 8192 → fw (fw (fun _ => 0) a b) p c (x % 8192).toNat = c := fun x hx => by
    unfold fw; rw [if_pos (by omega)]
  have p0 : 0 ≤ p ∧ p ≤ 65535 := by omega
  have q0 : 0 ≤ q ∧ q ≤ 65535 := by omega
  clear ep eq
  have F1 := Lib.hid f1
  have F2 := Lib.hid f2
  have F3 := Lib.hid f3
  have HP := Lib.hid hp
  have HQ := Lib.hid hq
  clear f1 f2 f3 hp hq
  go_enter Try.func6, Try.ntmps6
  go_wp2_with fail
  refine (liveR_any _).mono ?_
  rintro e w0 ⟨rfl, hB0⟩
  go_wp2_with fail
  refine (rnew_any _).mono ?_
  rintro e w1 ⟨rfl, h1, k1⟩
  have hB1 := hB0.trans (k1.mono hB0.size)
  have hgW := hB0.size
  have H1 := Lib.hid h1
  generalize w0.heap.size = g at *
  clear h1 k1 hB0
  go_wp2_with fail
  refine (rwrite_any H1.out a b a0 a1).mono ?_
  rintro e w2 ⟨rfl, mb, h2, k2, m2⟩
  have hB2 := k2.onto hB1 hB1.size (by simpa using hgW)
  have H2 := Lib.hid h2
  have hmb : ∀ x, mb = some x → W.heap.size ≤ x := fun x e => by
    rcases m2 with m2 | ⟨y, m2, m3⟩
    · rw [m2] at e; cases e
    · rw [m2] at e; cases e; have := hB1.size; omega
  clear h2 k2 m2 hB1 H1
  go_wp2_with fail
  rw [HP.out]
  refine (rwrite_any H2.out p c p0.1 p0.2).mono ?_
  rintro e w3 ⟨rfl, mb3, h3, k3, m3⟩
  have hB3 := k3.onto hB2 hB2.size (by
    intro x hx
    rcases List.mem_cons.1 hx with rfl | hx
    · exact hgW
    · exact hmb x (by simpa using hx))
  have H3 := Lib.hid h3
  clear h3 k3 m3 hB2 H2
  go_wp2_with fail
  refine (rread_any H3.out a a0 a1).mono ?_
  rw [F1.out]
  rintro e w4 ⟨rfl, h4⟩
  have hB4 := hB3.trans (h4.mono hB3.size)
  have H4 := Lib.hid (H3.out.keep h4)
  clear h4 hB3 H3
  go_wp2_with fail
  rw [HQ.out]
  refine (rread_any H4.out q q0.1 q0.2).mono ?_
  rw [F2.out]
  rintro e w5 ⟨rfl, h5⟩
  have hB5 := hB4.trans (h5.mono hB4.size)
  have H5 := Lib.hid (H4.out.keep h5)
  clear h5 hB4 H4
  go_wp2_with fail
  simp only [IntKind.wrap_u16]
  refine (rread_any H5.out _ (by omega) (by omega)).mono ?_
  rw [F3.out _ (by omega)]
  rintro e w6 ⟨rfl, h6⟩
  have hB6 := hB5.trans (h6.mono hB5.size)
  clear h6 hB5 H5
  go_wp2_with fail
  go_ret
  exact ⟨by simp, hB6⟩

theorem own : ownKnob Try.prog.godebug = none := by kernel_rfl
theorem laidOut : laidOutB Try.prog = true := by kernel_rfl
set_option maxRecDepth 100000 in
theorem lifted (os : Os) (started : os.Started) (H : Type) (enc : TypeId × Value → H) :
    ReturnsInHanded {} Try.checked os 6 .any (Rows.ramWrapsSpec.pre6 enc Try.prog Try.f6 Rows.ramWrapsRow.domain false) (Rows.ramWrapsSpec.post enc Try.prog Try.f6 false true false false) := by
  refine returnsInHanded_of_change (C := Try.checked) own started (by kernel_rfl) Try.func6
    (ChangeSpec.witness6 (enc := enc) (C := Try.checked) false ⟨#[], #[.int .u16 0, .int .u8 0, .int .u8 0], []⟩ 8 (by kernel_rfl) (by kernel_rfl) (by kernel_rfl) (by kernel_rfl)) ?_
  intro W base args ds gs before hval0 hW _ _
  have hval : ∀ (j : Nat) t v, Try.f6.params[j]? = some t → args[j]? = some v → Value.okWide Try.prog W .any base t v := hval0
  have hW' := hW
  obtain ⟨p, q, hA0, hV, rfl, _, _⟩ := hW
  have hA : DataW.TrodAll enc Try.prog W 0 (fun _ => true) true Try.f6.params.toList args.toList ds p := hA0
  rw [Try.params6] at hA hval
  obtain ⟨v0, vs0, d0, ds0, p0, q0, hargs, rfl, rfl, h0, r0⟩ := trodAll_cons hA
  obtain ⟨v1, vs1, d1, ds1, p1, q1, rfl, rfl, rfl, h1, r1⟩ := trodAll_cons r0
  obtain ⟨v2, vs2, d2, ds2, p2, q2, rfl, rfl, rfl, h2, r2⟩ := trodAll_cons r1
  obtain ⟨rfl, rfl, rfl⟩ := trodAll_nil r2
  obtain rfl : args = #[v0, v1, v2] := by cases args; simp_all
  obtain ⟨rfl, rfl⟩ := trodVars_none hV
  obtain ⟨a0, rfl, rfl, rfl, w0⟩ := open_int Try.underlying47 (hval 0 47 v0 rfl rfl) h0
  obtain ⟨a1, rfl, rfl, rfl, w1⟩ := open_int Try.underlying5 (hval 1 5 v1 rfl rfl) h1
  obtain ⟨a2, rfl, rfl, rfl, w2⟩ := open_int Try.underlying5 (hval 2 5 v2 rfl rfl) h2
  clear hA0 hval0
  refine (walk a0 w0 a1 w1 a2 w2 W).mono fun e W' ⟨he, hg⟩ => ?_
  subst he
  exact ⟨_, rfl, law_post rfl Try.underlying4 laidOut (by kernel_rfl) rfl hW' rfl hg⟩

theorem over : Rows.ramWrapsRow.holds Try.pinned (OpenSpec.ofChange Rows.ramWrapsSpec) :=
  OpenClaim.holds_of_wide 6 Try.f6 rfl rfl rfl rfl rfl rfl rfl ⟨rfl, rfl, rfl, rfl, rfl⟩ rfl rfl rfl rfl rfl (by kernel_rfl) Try.func6 (by kernel_rfl)
    (of_decide_eq_true (by kernel_rfl)) (by unfold Func.isWrapper; first | (rw [if_pos (by decide +kernel)]; kernel_rfl) | (rw [if_neg (by decide +kernel)]; exact ⟨rfl, rfl⟩))
    (fun os started H enc _ => lifted os started H enc)

theorem proved : Rows.RamWrapsSaid := over
#print axioms proved
end Go.Proofs.Ytfhndajhlpakoaa.ramWraps
