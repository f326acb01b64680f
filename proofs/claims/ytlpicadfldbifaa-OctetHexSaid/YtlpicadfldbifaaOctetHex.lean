/-
  For every input OctetHex returns true, and each argument reads behind the call as it read before. No conditions.
-/
import Derived.Test.YtlpicadfldbifaaRows
import Derived.Test.YtlpicadfldbifaaG3
import Derived.Test.YtlpicadfldbifaaM3
namespace Go.Proofs.Ytlpicadfldbifaa.octetHex
open Go.ChangeShapes Go.WideShapes Go.ChangeAt Go.RowKit
open Go.ChangeMaps (open_string)

set_option linter.unusedVariables false
set_option maxHeartbeats 1000000 in
theorem walk (n : Int) (wn : (Lit.int .u32 n).wf = true) (d : Int) (wd : (Lit.int .i64 d).wf = true) (s : ByteArray) (ws : s.size ≤ maxLen) (w : World) :
    Calls Try.prog 8 #[.int .u32 n, .int .i64 d, .string s] w fun e w' => e = .returned (.bool true) ∧ Below w.heap.size w w' := by
  have bn := bounds_u32 wn
  clear wn wd
  have E1 := Lib.hid (fh_hex n bn.1 bn.2)
  have WS := Lib.hid ws
  clear ws
  go_enter Try.func8, Try.ntmps8
  go_wp2_with (first | (go_at_call 14; refine (live_any _).mono ?_; rintro e wl ⟨rfl, hbl⟩) | fail)
  go_wp2_with fail
  refine (hex_any _ _ _ (by omega) (by omega)).mono ?_
  rintro e w1 ⟨rfl, hb1⟩
  go_wp2_with fail
  refine (fromhex_any _ _ WS.out).mono ?_
  rintro e w2 ⟨rfl, hb2⟩
  go_wp2_with fail
  refine (rfromhex_any _ _ WS.out).mono ?_
  rintro e w3 ⟨rfl, hb3⟩
  go_wp2_with fail
  refine (asV (hex_any n 8 _ (by omega) (by omega)) (show _ = Value.string (strOfNums (hexL n 8)) from rfl)).mono ?_
  rintro e w4 ⟨rfl, hb4⟩
  go_wp2_with fail
  refine (asV (fromhex_any (strOfNums (hexL n 8)) _ (by rw [strOf_size, hexL_len]; decide)) (show _ = Value.tuple #[.int .u32 n, .int .i64 0] by rw [E1.out])).mono ?_
  rintro e w5 ⟨rfl, hb5⟩
  go_wp2_with fail
  refine (rhex_any _ _ _ (by omega) (by omega)).mono ?_
  rintro e w' ⟨rfl, rfl⟩
  go_wp2_with fail
  go_ret
  exact ⟨rfl, ((((hbl.trans (hb1.mono hbl.size)).trans (hb2.mono (by have := hbl.size; have := hb1.size; omega))).trans (hb3.mono (by have := hbl.size; have := hb1.size; have := hb2.size; omega))).trans (hb4.mono (by have := hbl.size; have := hb1.size; have := hb2.size; have := hb3.size; omega))).trans (hb5.mono (by have := hbl.size; have := hb1.size; have := hb2.size; have := hb3.size; have := hb4.size; omega))⟩

theorem own : ownKnob Try.prog.godebug = none := by kernel_rfl
theorem laidOut : laidOutB Try.prog = true := by kernel_rfl
set_option maxRecDepth 100000 in
theorem lifted (os : Os) (started : os.Started) (H : Type) (enc : TypeId × Value → H) :
    ReturnsInHanded {} Try.checked os 8 .any (Rows.octetHexSpec.pre6 enc Try.prog Try.f8 Rows.octetHexRow.domain false) (Rows.octetHexSpec.post enc Try.prog Try.f8 false true false false) := by
  refine returnsInHanded_of_change (C := Try.checked) own started (by kernel_rfl) Try.func8
    (ChangeSpec.witness6 (enc := enc) (C := Try.checked) false ⟨#[], #[.int .u32 0, .int .i64 0, .string ⟨#[]⟩], []⟩ 8 (by kernel_rfl) (by kernel_rfl) (by kernel_rfl) (by kernel_rfl)) ?_
  intro W base args ds gs before hval0 hW _ _
  have hval : ∀ (j : Nat) t v, Try.f8.params[j]? = some t → args[j]? = some v → Value.okWide Try.prog W .any base t v := hval0
  have hW' := hW
  obtain ⟨p, q, hA0, hV, rfl, _, _⟩ := hW
  have hA : DataW.TrodAll enc Try.prog W 0 (fun _ => true) true Try.f8.params.toList args.toList ds p := hA0
  rw [Try.params8] at hA hval
  obtain ⟨v0, vs0, d0, ds0, p0, q0, hargs, rfl, rfl, h0, r0⟩ := trodAll_cons hA
  obtain ⟨v1, vs1, d1, ds1, p1, q1, rfl, rfl, rfl, h1, r1⟩ := trodAll_cons r0
  obtain ⟨v2, vs2, d2, ds2, p2, q2, rfl, rfl, rfl, h2, r2⟩ := trodAll_cons r1
  obtain ⟨rfl, rfl, rfl⟩ := trodAll_nil r2
  obtain rfl : args = #[v0, v1, v2] := by cases args; simp_all
  obtain ⟨rfl, rfl⟩ := trodVars_none hV
  obtain ⟨a0, rfl, rfl, rfl, w0⟩ := open_int Try.underlying41 (hval 0 41 v0 rfl rfl) h0
  obtain ⟨a1, rfl, rfl, rfl, w1⟩ := open_int Try.underlying3 (hval 1 3 v1 rfl rfl) h1
  obtain ⟨a2, rfl, rfl, rfl, w2⟩ := open_string Try.underlying9 (hval 2 9 v2 rfl rfl) h2
  clear hA0 hval0
  refine (walk a0 w0 a1 w1 a2 w2 W).mono fun e W' ⟨he, hg⟩ => ?_
  subst he
  exact ⟨_, rfl, law_post rfl Try.underlying4 laidOut (by kernel_rfl) rfl hW' rfl hg⟩

theorem over : Rows.octetHexRow.holds Try.pinned (OpenSpec.ofChange Rows.octetHexSpec) :=
  OpenClaim.holds_of_wide 8 Try.f8 rfl rfl rfl rfl rfl rfl rfl ⟨rfl, rfl, rfl, rfl, rfl⟩ rfl rfl rfl rfl rfl (by kernel_rfl) Try.func8 (by kernel_rfl)
    (of_decide_eq_true (by kernel_rfl)) (by unfold Func.isWrapper; first | (rw [if_pos (by decide +kernel)]; kernel_rfl) | (rw [if_neg (by decide +kernel)]; exact ⟨rfl, rfl⟩))
    (fun os started H enc _ => lifted os started H enc)

theorem proved : Rows.OctetHexSaid := over
#print axioms proved
end Go.Proofs.Ytlpicadfldbifaa.octetHex
