/-
  For every input OctetWords returns true, and each argument reads behind the call as it read before. No conditions.
-/
import Derived.Test.YtlpicadfldbifaaRows
import Derived.Test.YtlpicadfldbifaaG3
import Derived.Test.YtlpicadfldbifaaM2
namespace Go.Proofs.Ytlpicadfldbifaa.octetWords
open Go.ChangeShapes Go.WideShapes Go.ChangeAt Go.RowKit
open Go.ChangeMaps (open_string)

set_option linter.unusedVariables false
theorem lo_in (x : Int) (w : World) (h0 : 0 ≤ x) (h1 : x ≤ 65535) : Calls Try.prog 20 #[.int .u16 x] w fun e w' => e = .returned (.int .u8 (x % 256)) ∧ w = w' :=
  asV (lo_any x w) (by simp only [IntKind.wrap_u8])
theorem hi_in (x : Int) (w : World) (h0 : 0 ≤ x) (h1 : x ≤ 65535) : Calls Try.prog 21 #[.int .u16 x] w fun e w' => e = .returned (.int .u8 (x / 256)) ∧ w = w' :=
  asV (hi_any x w) (by rw [IntWalk.u8_in _ (by omega)])
theorem word_in (l h : Int) (w : World) (l0 : 0 ≤ l) (l1 : l ≤ 255) (h0 : 0 ≤ h) (h1 : h ≤ 255) : Calls Try.prog 19 #[.int .u8 l, .int .u8 h] w fun e w' => e = .returned (.int .u16 (l + 256 * h)) ∧ w = w' :=
  asV (word_any l h w) (by rw [wordI_eq l h l0 l1 h0 h1])
theorem signed_in (b : Int) (w : World) (h0 : 0 ≤ b) (h1 : b ≤ 255) : Calls Try.prog 22 #[.int .u8 b] w fun e w' => e = .returned (.int .i64 (if 127 < b then b - 256 else b)) ∧ w = w' :=
  asV (signed_any b w) (by
    obtain ⟨n, rfl⟩ := Int.eq_ofNat_of_zero_le h0
    exact congrArg _ (m_signed n (by omega)))
set_option maxHeartbeats 1000000 in
theorem walk (x : Int) (wx : (Lit.int .u16 x).wf = true) (l : Int) (wl : (Lit.int .u8 l).wf = true) (h : Int) (wh : (Lit.int .u8 h).wf = true) (w : World) :
    Calls Try.prog 4 #[.int .u16 x, .int .u8 l, .int .u8 h] w fun e w' => e = .returned (.bool true) ∧ Below w.heap.size w w' := by
  have bx := bounds_u16 wx
  have bl := bounds_u8 wl
  have bh := bounds_u8 wh
  clear wx wl wh
  have t1 : (x % 256 + 256 * (x / 256) == x) = true := beq_iff_eq.2 (by omega)
  have t2 : ((l + 256 * h) % 256 == l) = true := beq_iff_eq.2 (by omega)
  have t3 : ((l + 256 * h) / 256 == h) = true := beq_iff_eq.2 (by omega)
  obtain ⟨s, hs⟩ : ∃ s : Int, (if 127 < l then l - 256 else l) = s := ⟨_, rfl⟩
  have HS := Lib.hid hs
  clear hs
  go_enter Try.func4, Try.ntmps4
  go_wp2_with (first | (go_at_call 14; refine (live_any _).mono ?_; rintro e wl ⟨rfl, hbl⟩) | (go_at_call 19; refine (word_in _ _ _ (by omega) (by omega) (by omega) (by omega)).mono ?_; rintro e w' ⟨rfl, rfl⟩) | (go_at_call 20; refine (lo_in _ _ (by omega) (by omega)).mono ?_; rintro e w' ⟨rfl, rfl⟩) | (go_at_call 21; refine (hi_in _ _ (by omega) (by omega)).mono ?_; rintro e w' ⟨rfl, rfl⟩) | (go_at_call 22; refine (asV (signed_in _ _ (by omega) (by omega)) (congrArg (Value.int .i64) HS.out)).mono ?_; rintro e w' ⟨rfl, rfl⟩) | (go_at_call 23; refine (asV (rsigned_any _ _ (by omega) (by omega)) (congrArg (Value.int .i64) HS.out)).mono ?_; rintro e w' ⟨rfl, rfl⟩))
  go_ret
  exact ⟨rfl, hbl⟩

theorem own : ownKnob Try.prog.godebug = none := by kernel_rfl
theorem laidOut : laidOutB Try.prog = true := by kernel_rfl
set_option maxRecDepth 100000 in
theorem lifted (os : Os) (started : os.Started) (H : Type) (enc : TypeId × Value → H) :
    ReturnsInHanded {} Try.checked os 4 .any (Rows.octetWordsSpec.pre6 enc Try.prog Try.f4 Rows.octetWordsRow.domain false) (Rows.octetWordsSpec.post enc Try.prog Try.f4 false true false false) := by
  refine returnsInHanded_of_change (C := Try.checked) own started (by kernel_rfl) Try.func4
    (ChangeSpec.witness6 (enc := enc) (C := Try.checked) false ⟨#[], #[.int .u16 0, .int .u8 0, .int .u8 0], []⟩ 8 (by kernel_rfl) (by kernel_rfl) (by kernel_rfl) (by kernel_rfl)) ?_
  intro W base args ds gs before hval0 hW _ _
  have hval : ∀ (j : Nat) t v, Try.f4.params[j]? = some t → args[j]? = some v → Value.okWide Try.prog W .any base t v := hval0
  have hW' := hW
  obtain ⟨p, q, hA0, hV, rfl, _, _⟩ := hW
  have hA : DataW.TrodAll enc Try.prog W 0 (fun _ => true) true Try.f4.params.toList args.toList ds p := hA0
  rw [Try.params4] at hA hval
  obtain ⟨v0, vs0, d0, ds0, p0, q0, hargs, rfl, rfl, h0, r0⟩ := trodAll_cons hA
  obtain ⟨v1, vs1, d1, ds1, p1, q1, rfl, rfl, rfl, h1, r1⟩ := trodAll_cons r0
  obtain ⟨v2, vs2, d2, ds2, p2, q2, rfl, rfl, rfl, h2, r2⟩ := trodAll_cons r1
  obtain ⟨rfl, rfl, rfl⟩ := trodAll_nil r2
  obtain rfl : args = #[v0, v1, v2] := by cases args; simp_all
  obtain ⟨rfl, rfl⟩ := trodVars_none hV
  obtain ⟨a0, rfl, rfl, rfl, w0⟩ := open_int Try.underlying26 (hval 0 26 v0 rfl rfl) h0
  obtain ⟨a1, rfl, rfl, rfl, w1⟩ := open_int Try.underlying5 (hval 1 5 v1 rfl rfl) h1
  obtain ⟨a2, rfl, rfl, rfl, w2⟩ := open_int Try.underlying5 (hval 2 5 v2 rfl rfl) h2
  clear hA0 hval0
  refine (walk a0 w0 a1 w1 a2 w2 W).mono fun e W' ⟨he, hg⟩ => ?_
  subst he
  exact ⟨_, rfl, law_post rfl Try.underlying4 laidOut (by kernel_rfl) rfl hW' rfl hg⟩

theorem over : Rows.octetWordsRow.holds Try.pinned (OpenSpec.ofChange Rows.octetWordsSpec) :=
  OpenClaim.holds_of_wide 4 Try.f4 rfl rfl rfl rfl rfl rfl rfl ⟨rfl, rfl, rfl, rfl, rfl⟩ rfl rfl rfl rfl rfl (by kernel_rfl) Try.func4 (by kernel_rfl)
    (of_decide_eq_true (by kernel_rfl)) (by unfold Func.isWrapper; first | (rw [if_pos (by decide +kernel)]; kernel_rfl) | (rw [if_neg (by decide +kernel)]; exact ⟨rfl, rfl⟩))
    (fun os started H enc _ => lifted os started H enc)

theorem proved : Rows.OctetWordsSaid := over
#print axioms proved
end Go.Proofs.Ytlpicadfldbifaa.octetWords
